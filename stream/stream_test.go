package stream

import (
	"bytes"
	"math/rand"
	"reflect"
	"strings"
	"testing"

	"gatewright/api"
)

func oneCell() api.Config {
	return api.Config{
		Shape: api.Shape{Inputs: 1, Outputs: 1, Regs: 1, Rows: 1, Cols: 1},
		Cells: [][]api.Cell{{{Sel: [4]int{2, 3, 0, 0}, Bits: 6}}},
		Regs:  []api.Cfg{{Sel: 2, Init: true}},
		Outs:  []int{2},
	}
}

// sixCells has selectors of 3 bits in its first column and of 3 behind it, none of which takes all numbers that so many bits have.
func sixCells() api.Config {
	return api.Config{
		Shape: api.Shape{Inputs: 3, Outputs: 2, Regs: 2, Rows: 3, Cols: 2},
		Cells: [][]api.Cell{
			{{Sel: [4]int{2, 3, 4, 5}, Bits: 0x8000}, {Sel: [4]int{6, 1, 0, 6}, Bits: 0x0001}, {Bits: 0xffff}},
			{{Sel: [4]int{4, 4, 4, 4}, Bits: 0x1234}, {Sel: [4]int{0, 1, 2, 3}, Bits: 0xabcd}, {Sel: [4]int{1, 1, 1, 1}}},
		},
		Regs: []api.Cfg{{Sel: 4, Init: false}, {Sel: 3, Init: true}},
		Outs: []int{0, 4},
	}
}

// holdBoth asks whether a configuration has these bytes, and they are read as that configuration.
func holdBoth(t *testing.T, c api.Config, want []byte) {
	t.Helper()
	if !Valid(c) {
		t.Fatalf("%+v is refused", c)
	}
	b := Encode(c)
	if !bytes.Equal(b, want) {
		t.Fatalf("%+v: %x, want %x", c.Shape, b, want)
	}
	if got, err := Decode(b); err != nil || !reflect.DeepEqual(got, c) {
		t.Fatalf("%+v: read as %+v, %v", c, got, err)
	}
}

// holdFault asks whether bytes are refused, and nothing else is told.
func holdFault(t *testing.T, name string, b []byte) {
	t.Helper()
	c, err := Decode(b)
	fault, ok := err.(*api.Fault)
	if !ok || *fault != (api.Fault{Code: api.FBits}) || !reflect.DeepEqual(c, api.Config{}) {
		t.Errorf("%s: %x: %+v, %v", name, b, c, err)
	}
}

// TestWritten: bytes that are written out by hand.
func TestWritten(t *testing.T) {
	holdBoth(t, oneCell(), []byte("GWB1\x00\x01\x00\x01\x00\x01\x00\x01\x00\x01\x00\x06\xb0\xd0|P\xac\xf7"))
	least := api.Config{Shape: api.Shape{Rows: 1, Cols: 1}, Cells: [][]api.Cell{{{Sel: [4]int{1, 0, 1, 1}, Bits: 0x8001}}}, Regs: []api.Cfg{}, Outs: []int{}}
	holdBoth(t, least, signed([]byte("GWB1\x00\x00\x00\x00\x00\x00\x00\x01\x00\x01\x80\x01\xb0")))
	text := "1000000000000000" + "010011100101" + "0000000000000001" + "110001000110" + "1111111111111111" + "000000000000" +
		"0001001000110100" + "100100100100" + "1010101111001101" + "000001010011" + "0000000000000000" + "001001001001" +
		"0" + "100" + "1" + "011" + "000" + "100"
	holdBoth(t, sixCells(), signed(append([]byte("GWB1\x00\x03\x00\x02\x00\x02\x00\x03\x00\x02"), packed(text)...)))
}

// TestWidths: as many sources as so many bits can tell, one less and one more.
func TestWidths(t *testing.T) {
	r := rand.New(rand.NewSource(1))
	for _, sources := range []int{2, 3, 4, 5, 7, 8, 9, 15, 16, 17, 31, 32, 33, 63, 64, 65, 127, 128, 129, 255, 256, 257, 502, 511, 512, 513, 1001, 1002} {
		inputs := min(500, sources-2)
		holdConfig(t, grownConfig(r, api.Shape{Inputs: inputs, Outputs: 2, Regs: sources - 2 - inputs, Rows: 2, Cols: 2}))
		holdConfig(t, grownConfig(r, api.Shape{Inputs: sources - 2 - inputs, Outputs: 1, Regs: inputs, Rows: 1, Cols: 1}))
		if sources > 2 && sources <= 502 {
			holdConfig(t, grownConfig(r, api.Shape{Inputs: 2, Outputs: 3, Regs: 3, Rows: sources - 2, Cols: 2}))
		}
	}
}

func holdConfig(t *testing.T, c api.Config) {
	t.Helper()
	holdBoth(t, c, bytesOf(c))
}

// TestRandom: any configurations, up to those of the greatest shape.
func TestRandom(t *testing.T) {
	r := rand.New(rand.NewSource(2))
	for range 3000 {
		holdConfig(t, grownConfig(r, smallShape(r)))
	}
	for range 30 {
		holdConfig(t, grownConfig(r, api.Shape{Inputs: r.Intn(501), Outputs: r.Intn(501), Regs: r.Intn(501), Rows: 1 + r.Intn(500), Cols: 1 + r.Intn(10)}))
	}
	for _, s := range []api.Shape{
		{Inputs: 500, Outputs: 500, Regs: 500, Rows: 500, Cols: 100}, {Rows: 500, Cols: 100}, {Rows: 1, Cols: 100}, {Rows: 500, Cols: 1},
		{Inputs: 500, Rows: 1, Cols: 1}, {Outputs: 500, Rows: 1, Cols: 1}, {Regs: 500, Rows: 1, Cols: 1},
	} {
		holdConfig(t, grownConfig(r, s))
	}
}

// TestTurned: one bit, or a few of them, are not as they were: the check sum tells.
func TestTurned(t *testing.T) {
	r := rand.New(rand.NewSource(3))
	for _, c := range []api.Config{oneCell(), sixCells(), grownConfig(r, smallShape(r))} {
		b := Encode(c)
		for i := range b {
			for mask := 1; mask < 256; mask++ {
				bad := bytes.Clone(b)
				bad[i] ^= byte(mask)
				holdFault(t, "turned", bad)
			}
			holdFault(t, "cut off", b[:i])
			holdFault(t, "the end alone", b[i+1:])
			holdFault(t, "a byte left out", append(bytes.Clone(b[:i]), b[i+1:]...))
			holdFault(t, "a byte put in", append(append(bytes.Clone(b[:i]), 0), b[i:]...))
		}
		holdFault(t, "a byte more", append(bytes.Clone(b), 0))
		holdFault(t, "twice", append(bytes.Clone(b), b...))
	}
	holdFault(t, "none", nil)
	holdFault(t, "empty", []byte{})
	holdFault(t, "the mark", []byte("GWB1"))
}

// TestWrongBits: what the check sum takes, but Encode would not give.
func TestWrongBits(t *testing.T) {
	shape := func(numbers ...int) string {
		text := ""
		for _, number := range numbers {
			text += digits(number, 1<<16)
		}
		return text
	}
	ones := strings.Repeat("0", 16) + "0000"
	for name, text := range map[string]string{
		"nothing":                       "",
		"a shape alone":                 shape(0, 0, 0, 1, 1),
		"no whole shape":                shape(0, 0, 0, 1),
		"a shape of nothing":            shape(0, 0, 0, 0, 0),
		"no rows":                       shape(0, 0, 0, 0, 1),
		"no columns":                    shape(0, 0, 0, 1, 0),
		"501 inputs":                    bitText(grownConfig(rand.New(rand.NewSource(1)), api.Shape{Inputs: 501, Rows: 1, Cols: 1})),
		"501 outputs":                   bitText(grownConfig(rand.New(rand.NewSource(1)), api.Shape{Outputs: 501, Rows: 1, Cols: 1})),
		"501 registers":                 bitText(grownConfig(rand.New(rand.NewSource(1)), api.Shape{Regs: 501, Rows: 1, Cols: 1})),
		"501 rows":                      bitText(grownConfig(rand.New(rand.NewSource(1)), api.Shape{Rows: 501, Cols: 1})),
		"101 columns":                   bitText(grownConfig(rand.New(rand.NewSource(1)), api.Shape{Rows: 1, Cols: 101})),
		"the greatest numbers":          shape(65535, 65535, 65535, 65535, 65535),
		"the greatest shape":            shape(500, 500, 500, 500, 100),
		"a selector beyond all":         shape(1, 0, 0, 1, 1) + strings.Repeat("0", 16) + "00001011",
		"the first selector beyond all": shape(1, 0, 0, 1, 1) + strings.Repeat("0", 16) + "11000000",
		"a second column's beyond all":  shape(2, 0, 0, 1, 2) + strings.Repeat("0", 16) + "11111111" + strings.Repeat("0", 16) + "00110000",
		"a register's beyond all":       shape(0, 0, 1, 1, 1) + strings.Repeat("0", 16) + "00000000" + "011",
		"an output's beyond all":        shape(0, 1, 0, 1, 1) + ones + "11",
		"ones at the end":               shape(0, 1, 0, 1, 1) + ones + "1001",
		"a one as the last bit":         shape(0, 1, 0, 1, 1) + ones + "10" + "000001" + "00000001",
		"a byte of zeros too many":      shape(0, 1, 0, 1, 1) + ones + "10" + "00" + "00000000",
		"a byte too few":                shape(0, 1, 0, 1, 1) + strings.Repeat("0", 16),
	} {
		holdFault(t, name, signed(append([]byte("GWB1"), packed(text)...)))
	}
	right := shape(0, 1, 0, 1, 1) + ones + "10"
	if _, err := Decode(signed(append([]byte("GWB1"), packed(right)...))); err != nil {
		t.Error("what is right is refused")
	}
	for _, mark := range []string{"", "GWB", "GWB2", "gwb1", "GWB0", "WGB1", " GWB1", "GWB1\n"} {
		holdFault(t, "the mark "+mark, signed(append([]byte(mark), packed(right)...)))
	}
	b := Encode(oneCell())
	n := len(b)
	holdFault(t, "the sum backwards", append(bytes.Clone(b[:n-4]), b[n-1], b[n-2], b[n-3], b[n-4]))
	holdFault(t, "the sum turned", append(bytes.Clone(b[:n-4]), ^b[n-4], ^b[n-3], ^b[n-2], ^b[n-1]))
	holdFault(t, "no sum", b[:n-4])
	holdFault(t, "the sum of nothing", []byte{0, 0, 0, 0})
}

// TestGuessed: whatever bytes it is, if they are read, Encode gives them; and what bits may be, is read.
func TestGuessed(t *testing.T) {
	r := rand.New(rand.NewSource(4))
	taken := 0
	for range 20000 {
		c := grownConfig(r, smallShape(r))
		b := bytesOf(c)
		b = b[:len(b)-4]
		for range 1 + r.Intn(3) {
			b[4+r.Intn(len(b)-4)] ^= 1 << r.Intn(8)
		}
		if r.Intn(10) == 0 {
			b = append(b, byte(r.Intn(2)))
		}
		b = signed(b)
		c, err := Decode(b)
		if err != nil {
			holdFault(t, "guessed", b)
			continue
		}
		taken++
		if !Valid(c) || !bytes.Equal(bytesOf(c), b) {
			t.Fatalf("%x is read as %+v", b, c)
		}
	}
	if taken < 5000 {
		t.Errorf("only %d are read", taken)
	}
	for range 20000 {
		b := make([]byte, r.Intn(40))
		r.Read(b)
		holdFault(t, "anything", b)
	}
}

// TestMemory: what is handed over is only read, what is answered is new.
func TestMemory(t *testing.T) {
	r := rand.New(rand.NewSource(5))
	for range 300 {
		c := grownConfig(r, smallShape(r))
		before := configCopy(c)
		b := Encode(c)
		written := bytes.Clone(b)
		one, _ := Decode(b)
		if !Valid(c) || !reflect.DeepEqual(c, before) || !bytes.Equal(b, written) {
			t.Fatalf("%+v is not as it was", before)
		}
		clear(b)
		if !reflect.DeepEqual(one, before) || !bytes.Equal(Encode(c), written) {
			t.Fatalf("%+v shares memory", before)
		}
		for i := range one.Cells {
			one.Cells[i] = append(one.Cells[i], api.Cell{Bits: 7})
			clear(one.Cells[i])
			for k := i + 1; k < len(one.Cells); k++ {
				if !reflect.DeepEqual(one.Cells[k], before.Cells[k]) {
					t.Fatalf("columns of %+v share memory", before)
				}
			}
		}
		if again, _ := Decode(written); !reflect.DeepEqual(again, before) {
			t.Fatalf("%+v is read otherwise", before)
		}
	}
}
