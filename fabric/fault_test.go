package fabric

import (
	"bytes"
	"math/rand"
	"testing"

	"gatewright/api"
	"gatewright/stream"
)

// holdFault asks whether bytes are refused, and nothing else is told.
func holdFault(t *testing.T, name string, b []byte) {
	t.Helper()
	for _, trace := range [][][]bool{nil, {{true}, nil}} {
		rows, err := Run(b, trace)
		fault, ok := err.(*api.Fault)
		if !ok || *fault != (api.Fault{Code: api.FBits}) || rows != nil {
			t.Errorf("%s: %x: %v, %v", name, b, rows, err)
		}
	}
}

// TestTurned: bits are not as they were, or bytes are missing or too many: the check sum tells.
func TestTurned(t *testing.T) {
	r := rand.New(rand.NewSource(11))
	for range 3 {
		b := stream.Encode(grownConfig(r, smallShape(r)))
		for i := range b {
			for mask := 1; mask < 256; mask++ {
				bad := bytes.Clone(b)
				bad[i] ^= byte(mask)
				holdFault(t, "turned", bad)
			}
			holdFault(t, "cut off", b[:i])
			holdFault(t, "the end alone", b[i+1:])
			holdFault(t, "a byte left out", append(bytes.Clone(b[:i]), b[i+1:]...))
			holdFault(t, "a byte put in", append(append(bytes.Clone(b[:i]), 0), b[i:]...))
		}
		holdFault(t, "a byte more", append(bytes.Clone(b), 0))
		holdFault(t, "twice", append(bytes.Clone(b), b...))
	}
	for _, text := range []string{"", "G", "GWB", "GWB1", "GWB1\x00\x00\x00", "\x00\x00\x00\x00"} {
		holdFault(t, "too short", []byte(text))
	}
}

// TestWrongBits: what the check sum takes, but is no bit stream.
func TestWrongBits(t *testing.T) {
	const cell = "\x12\x34" // a table; of no inputs and registers four bits of selectors stand behind it
	for name, text := range map[string]string{
		"nothing":                    "",
		"half a mark":                "GW",
		"a mark":                     "GWB1",
		"another mark":               "GWB2\x00\x00\x00\x00\x00\x00\x00\x01\x00\x01" + cell + "\x00",
		"half a shape":               "GWB1\x00\x00\x00\x00\x00",
		"a shape":                    "GWB1\x00\x00\x00\x00\x00\x00\x00\x01\x00\x01",
		"a table alone":              "GWB1\x00\x00\x00\x00\x00\x00\x00\x01\x00\x01" + cell,
		"a one at the end":           "GWB1\x00\x00\x00\x00\x00\x00\x00\x01\x00\x01" + cell + "\x01",
		"a one behind the last":      "GWB1\x00\x00\x00\x00\x00\x00\x00\x01\x00\x01" + cell + "\x08",
		"a byte too many":            "GWB1\x00\x00\x00\x00\x00\x00\x00\x01\x00\x01" + cell + "\x00\x00",
		"no rows":                    "GWB1\x00\x00\x00\x00\x00\x00\x00\x00\x00\x01",
		"no columns":                 "GWB1\x00\x00\x00\x00\x00\x00\x00\x01\x00\x00",
		"the greatest numbers":       "GWB1\xff\xff\xff\xff\xff\xff\xff\xff\xff\xff",
		"the greatest shape alone":   "GWB1\x01\xf4\x01\xf4\x01\xf4\x01\xf4\x00\x64",
		"a cell's selector":          "GWB1\x00\x01\x00\x00\x00\x00\x00\x01\x00\x01" + cell + "\x03",
		"a cell's first selector":    "GWB1\x00\x01\x00\x00\x00\x00\x00\x01\x00\x01" + cell + "\xc0",
		"a second column's selector": "GWB1\x00\x02\x00\x00\x00\x00\x00\x01\x00\x02" + cell + "\xff" + cell + "\x30",
		"a register's selector":      "GWB1\x00\x00\x00\x00\x00\x01\x00\x01\x00\x01" + cell + "\x00\x60",
		"an output's selector":       "GWB1\x00\x00\x00\x01\x00\x00\x00\x01\x00\x01" + cell + "\x0c",
		"501 outputs":                "GWB1\x00\x00\x01\xf5\x00\x00\x00\x01\x00\x01" + cell + "\x00" + string(make([]byte, 125)),
	} {
		holdFault(t, name, signed([]byte(text)))
	}
	for _, text := range []string{
		"GWB1\x00\x00\x00\x00\x00\x00\x00\x01\x00\x01" + cell + "\xf0",
		"GWB1\x00\x01\x00\x00\x00\x00\x00\x01\x00\x01" + cell + "\xaa",
		"GWB1\x00\x02\x00\x00\x00\x00\x00\x01\x00\x02" + cell + "\xff" + cell + "\xaa",
		"GWB1\x00\x00\x00\x00\x00\x01\x00\x01\x00\x01" + cell + "\xaa\xc0",
		"GWB1\x00\x00\x00\x01\x00\x00\x00\x01\x00\x01" + cell + "\xf8",
		"GWB1\x00\x00\x01\xf4\x00\x00\x00\x01\x00\x01" + cell + "\x00" + string(make([]byte, 125)),
	} {
		if _, err := Run(signed([]byte(text)), nil); err != nil {
			t.Errorf("%x is refused", text)
		}
	}
}

// TestLargest: of each number the greatest that may be, and one more, though all else is right.
func TestLargest(t *testing.T) {
	for _, c := range []struct {
		inputs, outputs, regs, rows, cols int
		right                             bool
	}{
		{500, 0, 0, 1, 1, true}, {501, 0, 0, 1, 1, false},
		{0, 500, 0, 1, 1, true}, {0, 501, 0, 1, 1, false},
		{0, 0, 500, 1, 1, true}, {0, 0, 501, 1, 1, false},
		{0, 0, 0, 500, 1, true}, {0, 0, 0, 501, 1, false},
		{0, 0, 0, 1, 100, true}, {0, 0, 0, 1, 101, false},
	} {
		bits := func(n int) int { // to tell n numbers
			count := 0
			for n > 1<<count {
				count++
			}
			return count
		}
		all := c.rows * (16 + 4*bits(2+c.inputs+c.regs))
		all += (c.cols - 1) * c.rows * (16 + 4*bits(2+c.rows))
		all += c.regs*(1+bits(2+c.rows)) + c.outputs*bits(2+c.rows)
		b := []byte("GWB1")
		for _, number := range []int{c.inputs, c.outputs, c.regs, c.rows, c.cols} {
			b = append(b, byte(number>>8), byte(number))
		}
		b = signed(append(b, make([]byte, (all+7)/8)...))
		if _, err := Run(b, [][]bool{{true}}); (err == nil) != c.right {
			t.Errorf("%+v: %v", c, err)
		}
		if !c.right {
			holdFault(t, "too large a shape", b)
		}
	}
}

// TestGuessed: the fabric runs what stream.Decode reads, and nothing else.
func TestGuessed(t *testing.T) {
	r := rand.New(rand.NewSource(12))
	taken := 0
	for range 20000 {
		b := stream.Encode(grownConfig(r, smallShape(r)))
		b = b[:len(b)-4]
		for range 1 + r.Intn(3) {
			b[r.Intn(len(b))] ^= 1 << r.Intn(8)
		}
		if r.Intn(10) == 0 {
			b = append(b, byte(r.Intn(2)))
		}
		b = signed(b)
		c, err := stream.Decode(b)
		if err != nil {
			holdFault(t, "guessed", b)
			continue
		}
		taken++
		trace := rowsOf(r, c.Shape.Inputs, 3)
		holdRows(t, b, trace, played(c, trace))
	}
	if taken < 5000 {
		t.Errorf("only %d run", taken)
	}
	for range 20000 {
		b := make([]byte, r.Intn(40))
		r.Read(b)
		holdFault(t, "anything", b)
	}
}
