package fabric

import (
	"bytes"
	"go/parser"
	"go/token"
	"math/rand"
	"path/filepath"
	"reflect"
	"strings"
	"testing"

	"gatewright/api"
	"gatewright/stream"
)

// holdRows asks whether a bit stream shows these rows.
func holdRows(t *testing.T, b []byte, trace, want [][]bool) {
	t.Helper()
	got, err := Run(b, trace)
	if err != nil || len(got) != len(trace) || len(want) != len(trace) {
		t.Fatalf("%x: %v, %v, want %v", b, got, err, want)
	}
	for i := range want {
		if !reflect.DeepEqual(got[i], want[i]) {
			t.Fatalf("%x: cycle %d: %v, want %v", b, i, got[i], want[i])
		}
	}
}

// TestWritten: bits that are written out by hand. The cell is the exclusive or of the input and the register, which becomes that.
func TestWritten(t *testing.T) {
	b := []byte("GWB1\x00\x01\x00\x01\x00\x01\x00\x01\x00\x01\x00\x06\xb0\xd0|P\xac\xf7")
	holdRows(t, b, [][]bool{{true}, {false}, {true}, {true}, nil, {false, true, true}, {true, true}},
		[][]bool{{false}, {false}, {true}, {false}, {false}, {false}, {true}})
	// The cell's selectors are true, false, true, true, which spells 13; the outputs choose the cell and false.
	b = signed([]byte("GWB1\x00\x00\x00\x02\x00\x00\x00\x01\x00\x01\x20\x00\xb8"))
	holdRows(t, b, [][]bool{nil, {true}}, [][]bool{{true, false}, {true, false}})
}

// TestSelectors: what each number chooses, in the first column and behind it.
func TestSelectors(t *testing.T) {
	pass := func(from int) api.Cell { return api.Cell{Sel: [4]int{from}, Bits: 2} }
	first := api.Config{
		Shape: api.Shape{Inputs: 2, Outputs: 8, Regs: 2, Rows: 6, Cols: 1},
		Cells: [][]api.Cell{{pass(0), pass(1), pass(2), pass(3), pass(4), pass(5)}},
		Regs:  []api.Cfg{{Sel: 0, Init: true}, {Sel: 1, Init: false}},
		Outs:  []int{0, 1, 2, 3, 4, 5, 6, 7},
	}
	trace := [][]bool{{true, false}, {false, true}}
	holdRows(t, stream.Encode(first), trace, [][]bool{{false, true, false, true, true, false, true, false}, {false, true, false, true, false, true, false, true}})
	second := first
	second.Shape.Cols = 2
	second.Cells = [][]api.Cell{first.Cells[0], {pass(7), pass(6), pass(5), pass(4), pass(1), pass(0)}}
	holdRows(t, stream.Encode(second), trace, [][]bool{{false, true, false, true, false, true, true, false}, {false, true, true, false, true, false, true, false}})
}

// TestInputsOfCells: each table of four inputs, at all of them.
func TestInputsOfCells(t *testing.T) {
	var trace [][]bool
	for k := range 16 {
		trace = append(trace, []bool{k&1 > 0, k&2 > 0, k&4 > 0, k&8 > 0})
	}
	for bit := range 16 {
		for _, table := range []int{1 << bit, 65535 - 1<<bit} {
			b := stream.Encode(api.Config{
				Shape: api.Shape{Inputs: 4, Outputs: 1, Rows: 1, Cols: 1},
				Cells: [][]api.Cell{{{Sel: [4]int{2, 3, 4, 5}, Bits: table}}},
				Outs:  []int{2},
			})
			var want [][]bool
			for k := range 16 {
				want = append(want, []bool{(k == bit) == (table == 1<<bit)})
			}
			holdRows(t, b, trace, want)
		}
	}
}

// TestRegisters: all of them become what they choose at one time; outputs are told ahead of it.
func TestRegisters(t *testing.T) {
	pass := func(from int) api.Cell { return api.Cell{Sel: [4]int{from}, Bits: 2} }
	ring := api.Config{
		Shape: api.Shape{Outputs: 3, Regs: 3, Rows: 3, Cols: 1},
		Cells: [][]api.Cell{{pass(2), pass(3), pass(4)}},
		Regs:  []api.Cfg{{Sel: 4, Init: true}, {Sel: 2, Init: false}, {Sel: 3, Init: false}},
		Outs:  []int{2, 3, 4},
	}
	holdRows(t, stream.Encode(ring), make([][]bool, 5), [][]bool{{true, false, false}, {false, true, false}, {false, false, true}, {true, false, false}, {false, true, false}})
}

// TestTraces: none, and rows that are missing, too short, too long.
func TestTraces(t *testing.T) {
	r := rand.New(rand.NewSource(1))
	c := grownConfig(r, api.Shape{Inputs: 3, Outputs: 4, Regs: 2, Rows: 5, Cols: 3})
	b := stream.Encode(c)
	holdRows(t, b, nil, nil)
	holdRows(t, b, [][]bool{}, [][]bool{})
	trace := [][]bool{nil, {}, {true}, {true, true}, {false, true, true}, {false, true, true, true}, make([]bool, 5000), {true, false, true, false, true}}
	holdRows(t, b, trace, played(c, trace))
	none := api.Config{Shape: api.Shape{Rows: 1, Cols: 1}, Cells: [][]api.Cell{{{Bits: 1}}}}
	holdRows(t, stream.Encode(none), [][]bool{{true}, nil}, [][]bool{{}, {}})
}

// TestRandom: any configurations, up to those of the greatest shape.
func TestRandom(t *testing.T) {
	r := rand.New(rand.NewSource(2))
	for range 3000 {
		c := grownConfig(r, smallShape(r))
		trace := rowsOf(r, c.Shape.Inputs, 1+r.Intn(8))
		holdRows(t, stream.Encode(c), trace, played(c, trace))
	}
	for _, s := range []api.Shape{
		{Inputs: 500, Outputs: 500, Regs: 500, Rows: 500, Cols: 100}, {Rows: 500, Cols: 100, Outputs: 1}, {Rows: 1, Cols: 100, Outputs: 500, Regs: 500},
		{Inputs: 500, Rows: 500, Cols: 1, Outputs: 500}, {Regs: 500, Rows: 500, Cols: 1, Outputs: 500}, {Inputs: 255, Regs: 255, Outputs: 9, Rows: 255, Cols: 7},
	} {
		c := grownConfig(r, s)
		trace := rowsOf(r, s.Inputs, 5)
		holdRows(t, stream.Encode(c), trace, played(c, trace))
	}
}

// TestMemory: what is handed over is only read, what is answered is new, and the same each time.
func TestMemory(t *testing.T) {
	r := rand.New(rand.NewSource(3))
	for range 300 {
		c := grownConfig(r, smallShape(r))
		b := stream.Encode(c)
		trace := rowsOf(r, c.Shape.Inputs, 5)
		bytesBefore, traceBefore := bytes.Clone(b), traceCopy(trace)
		one, _ := Run(b, trace)
		if !bytes.Equal(b, bytesBefore) || !reflect.DeepEqual(trace, traceBefore) {
			t.Fatal("something is not as it was")
		}
		other, _ := Run(b, trace)
		if !reflect.DeepEqual(one, other) {
			t.Fatalf("%v, then %v", one, other)
		}
		for i := range one {
			one[i] = append(one[i], true, true)
			clear(one[i])
			if i+1 < len(one) && !reflect.DeepEqual(one[i+1:], other[i+1:]) {
				t.Fatal("rows share memory")
			}
		}
		if !reflect.DeepEqual(trace, traceBefore) || !reflect.DeepEqual(other, played(c, trace)) {
			t.Fatal("an answer shares memory")
		}
	}
}

// TestAlone: the package calls no other one but api.
func TestAlone(t *testing.T) {
	files, err := filepath.Glob("*.go")
	if err != nil || len(files) == 0 {
		t.Fatal(err)
	}
	for _, name := range files {
		if strings.HasSuffix(name, "_test.go") {
			continue
		}
		file, err := parser.ParseFile(token.NewFileSet(), name, nil, parser.ImportsOnly)
		if err != nil {
			t.Fatal(err)
		}
		for _, i := range file.Imports {
			if p := strings.Trim(i.Path.Value, `"`); p != "gatewright/api" {
				t.Errorf("%s imports %s", name, p)
			}
		}
	}
}
