package place

import (
	"math/rand"
	"reflect"
	"testing"

	"gatewright/api"
	"gatewright/lut"
)

// twoTables is the sum of two inputs and a register, which becomes that sum, and its opposite.
func twoTables() api.Tables {
	return api.Tables{
		Inputs:  2,
		Init:    []bool{true},
		Tables:  []api.Table{{Ins: []int{2, 3, 4}, Bits: 0b10010110}, {Ins: []int{5}, Bits: 1}},
		Next:    []int{5},
		Outputs: []int{6, 1},
	}
}

func TestFit(t *testing.T) {
	s := api.Shape{Inputs: 3, Outputs: 4, Regs: 2, Rows: 7, Cols: 4}
	c, err := Fit(twoTables(), s)
	if err != nil || c.Shape != s || !isConfig(c) {
		t.Fatalf("%v: %+v", err, c)
	}
	rows := played(c, [][]bool{{true, true}, {false, true}, {true}, {false, false, true}})
	for i, want := range []bool{false, true, false, false} { // the register: true, true, false, true
		if rows[i][0] != want || !rows[i][1] {
			t.Errorf("cycle %d: %v", i, rows[i])
		}
	}
}

// TestMustFit: wherever the chapter says that a net must fit, it does, and shows the same.
func TestMustFit(t *testing.T) {
	r := rand.New(rand.NewSource(1))
	for range 3000 {
		n := grownNet(r, r.Intn(5), r.Intn(5), r.Intn(14), r.Intn(5), r.Intn(6))
		s := leastShape(n)
		holdFit(t, r, n, s)
		s.Inputs += r.Intn(3)
		s.Outputs += r.Intn(3)
		s.Regs += r.Intn(3)
		s.Rows += r.Intn(3)
		s.Cols += r.Intn(4)
		holdFit(t, r, n, s)
	}
}

// TestMustFitLarge: the same up to the greatest shape.
func TestMustFitLarge(t *testing.T) {
	r := rand.New(rand.NewSource(2))
	for range 60 {
		n := grownNet(r, r.Intn(200), r.Intn(150), r.Intn(151), r.Intn(501), r.Intn(40))
		s := leastShape(n)
		holdFit(t, r, n, s)
		holdFit(t, r, n, api.Shape{Inputs: 500, Outputs: 500, Regs: 500, Rows: s.Rows, Cols: s.Cols})
		holdFit(t, r, n, api.Shape{Inputs: s.Inputs, Outputs: s.Outputs, Regs: s.Regs, Rows: 500, Cols: 100})
	}
	greatest := api.Shape{Inputs: 500, Outputs: 500, Regs: 500, Rows: 500, Cols: 100}
	for _, n := range []api.Tables{
		grownNet(r, 500, 0, 0, 500, 0),
		grownNet(r, 0, 500, 0, 500, 0),
		grownNet(r, 0, 0, 500, 500, 0),
		grownNet(r, 250, 250, 0, 500, 0),
		grownNet(r, 100, 100, 300, 500, 0),
		chainNet(100),
	} {
		holdFit(t, r, n, leastShape(n))
		holdFit(t, r, n, greatest)
	}
}

// TestEdges: nets in which something is missing, or counts for nothing.
func TestEdges(t *testing.T) {
	r := rand.New(rand.NewSource(3))
	unneeded := chainNet(150) // deeper than a fabric can be
	unneeded.Outputs = []int{4, 2, 0}
	for _, c := range []struct {
		name string
		net  api.Tables
		cols int
	}{
		{"nothing", api.Tables{}, 1},
		{"constants", api.Tables{Outputs: []int{1, 0, 1}}, 1},
		{"an input", api.Tables{Inputs: 2, Outputs: []int{3}}, 1},
		{"registers that change places", api.Tables{Init: []bool{true, false}, Next: []int{3, 2}, Outputs: []int{2, 3, 2}}, 1},
		{"registers that nobody takes", api.Tables{Inputs: 1, Init: []bool{true, true, false}, Next: []int{1, 0, 2}}, 1},
		{"a table of none", api.Tables{Tables: []api.Table{{Bits: 1}, {Bits: 0}}, Outputs: []int{2, 3}}, 1},
		{"a table of constants", api.Tables{Tables: []api.Table{{Ins: []int{1, 0}, Bits: 2}, {Ins: []int{2, 1}, Bits: 8}}, Outputs: []int{3, 1, 2}}, 2},
		{"an input four times", api.Tables{Inputs: 1, Tables: []api.Table{{Ins: []int{2, 2, 2, 2}, Bits: 32769}}, Outputs: []int{3, 3}}, 1},
		{"tables that nobody needs", api.Tables{Inputs: 1, Tables: unneeded.Tables, Outputs: []int{4, 2, 0}}, 2},
		{"a Next alone", api.Tables{Init: []bool{true}, Tables: []api.Table{{Ins: []int{2}, Bits: 1}}, Next: []int{3}}, 1},
		{"an input beside a chain", api.Tables{Inputs: 1, Tables: chainNet(9).Tables, Outputs: []int{11, 2}}, 9},
	} {
		s := leastShape(c.net)
		if s.Cols != c.cols {
			t.Fatalf("%s: depth %d", c.name, s.Cols)
		}
		s.Rows = min(s.Rows, 500)
		holdFit(t, r, c.net, s)
		s.Cols, s.Rows, s.Inputs, s.Regs = s.Cols+3, min(s.Rows+1, 500), s.Inputs+2, s.Regs+2
		holdFit(t, r, c.net, s)
	}
}

// TestFaults: what is too small, and what is no shape.
func TestFaults(t *testing.T) {
	right := api.Shape{Inputs: 2, Outputs: 2, Regs: 1, Rows: 5, Cols: 2}
	holdFit(t, rand.New(rand.NewSource(4)), twoTables(), right)
	for _, c := range []struct {
		name  string
		spoil func(s *api.Shape)
	}{
		{"an input too few", func(s *api.Shape) { s.Inputs = 1 }},
		{"an output too few", func(s *api.Shape) { s.Outputs = 1 }},
		{"a register too few", func(s *api.Shape) { s.Regs = 0 }},
		{"a column too few", func(s *api.Shape) { s.Cols = 1 }},
		{"a row for two signals", func(s *api.Shape) { s.Rows = 1 }},
		{"no rows", func(s *api.Shape) { s.Rows = 0 }},
		{"no columns", func(s *api.Shape) { s.Cols = 0 }},
		{"nothing", func(s *api.Shape) { *s = api.Shape{} }},
		{"501 inputs", func(s *api.Shape) { s.Inputs = 501 }},
		{"501 outputs", func(s *api.Shape) { s.Outputs = 501 }},
		{"501 registers", func(s *api.Shape) { s.Regs = 501 }},
		{"501 rows", func(s *api.Shape) { s.Rows = 501 }},
		{"101 columns", func(s *api.Shape) { s.Cols = 101 }},
		{"numbers below 0", func(s *api.Shape) { *s = api.Shape{Inputs: -1, Outputs: -1, Regs: -1, Rows: -1, Cols: -1} }},
		{"far too many", func(s *api.Shape) { s.Rows, s.Cols = 1<<63-1, 1<<63-1 }},
		{"far too few", func(s *api.Shape) { s.Rows, s.Cols = -1<<63, -1<<63 }},
	} {
		s := right
		c.spoil(&s)
		holdFault(t, c.name, twoTables(), s)
	}
	for _, s := range []api.Shape{
		{Inputs: -1, Rows: 1, Cols: 1}, {Outputs: -1, Rows: 1, Cols: 1}, {Regs: -1, Rows: 1, Cols: 1},
		{Rows: 0, Cols: 1}, {Rows: 1, Cols: 0}, {Rows: -1, Cols: 1}, {Rows: 1, Cols: -1},
		{Inputs: 501, Rows: 1, Cols: 1}, {Outputs: 501, Rows: 1, Cols: 1}, {Regs: 501, Rows: 1, Cols: 1}, {Rows: 501, Cols: 1}, {Rows: 1, Cols: 101},
	} {
		holdFault(t, "no shape, of nothing", api.Tables{}, s)
	}
}

// TestTooSmall: of any net, what is below it.
func TestTooSmall(t *testing.T) {
	r := rand.New(rand.NewSource(5))
	for range 1000 {
		n := grownNet(r, r.Intn(5), r.Intn(5), r.Intn(20), r.Intn(5), r.Intn(6))
		for k, number := range []int{n.Inputs, len(n.Outputs), len(n.Init), lut.Depth(n)} {
			s := api.Shape{Inputs: 500, Outputs: 500, Regs: 500, Rows: 500, Cols: 100}
			if number == 0 {
				continue
			}
			*[]*int{&s.Inputs, &s.Outputs, &s.Regs, &s.Cols}[k] = r.Intn(number)
			holdFault(t, "too small", n, s)
		}
	}
	s := api.Shape{Inputs: 500, Outputs: 500, Regs: 500, Rows: 500, Cols: 100}
	holdFault(t, "501 inputs", api.Tables{Inputs: 501}, s)
	holdFault(t, "60000 inputs", api.Tables{Inputs: 60000, Outputs: []int{60001}}, s)
	holdFault(t, "501 outputs", api.Tables{Outputs: make([]int, 501)}, s)
	holdFault(t, "501 registers", api.Tables{Init: make([]bool, 501), Next: make([]int, 501)}, s)
	holdFault(t, "101 inverters", chainNet(101), s)
}

// TestWrongNets: what is no net fits nowhere, and throws nothing.
func TestWrongNets(t *testing.T) {
	s := api.Shape{Inputs: 9, Outputs: 9, Regs: 9, Rows: 20, Cols: 9}
	for name, spoil := range map[string]func(n *api.Tables){
		"inputs below 0":         func(n *api.Tables) { n.Inputs = -3 },
		"a Next too few":         func(n *api.Tables) { n.Next = nil },
		"a Next too many":        func(n *api.Tables) { n.Next = []int{5, 5} },
		"a Next beyond all":      func(n *api.Tables) { n.Next[0] = 7 },
		"an output beyond all":   func(n *api.Tables) { n.Outputs[0] = 1 << 40 },
		"an output below 0":      func(n *api.Tables) { n.Outputs[0] = -1 },
		"a table on itself":      func(n *api.Tables) { n.Tables[1].Ins[0] = 6 },
		"a table on one behind":  func(n *api.Tables) { n.Tables[0].Ins[0] = 6 },
		"a table on less than 0": func(n *api.Tables) { n.Tables[0].Ins[0] = -1 },
		"five inputs":            func(n *api.Tables) { n.Tables[0].Ins = make([]int, 5) },
		"bits that are too many": func(n *api.Tables) { n.Tables[0].Bits = 256 },
	} {
		n := twoTables()
		spoil(&n)
		holdFault(t, name, n, s)
	}
}

// TestMemory: what is handed over is only read, what is answered is new, and the same each time.
func TestMemory(t *testing.T) {
	r := rand.New(rand.NewSource(6))
	for range 300 {
		n := grownNet(r, r.Intn(5), r.Intn(5), r.Intn(14), r.Intn(5), r.Intn(6))
		s := leastShape(n)
		s.Rows = max(1, s.Rows-r.Intn(6))
		before := netCopy(n)
		one, errOne := Fit(n, s)
		other, errOther := Fit(n, s)
		if !reflect.DeepEqual(one, other) || (errOne == nil) != (errOther == nil) || !reflect.DeepEqual(n, before) {
			t.Fatalf("twice: %+v, %+v of %+v", one, other, n)
		}
		for i := range one.Cells {
			one.Cells[i] = append(one.Cells[i], api.Cell{Bits: 77})
			for k := range one.Cells[i] {
				one.Cells[i][k] = api.Cell{Sel: [4]int{i, i, i, i}, Bits: i}
			}
			for k := i + 1; k < len(one.Cells); k++ {
				if !reflect.DeepEqual(one.Cells[k], other.Cells[k]) {
					t.Fatalf("columns share memory: %+v", n)
				}
			}
		}
		if again, _ := Fit(n, s); !reflect.DeepEqual(again, other) || !reflect.DeepEqual(n, before) {
			t.Fatalf("an answer shares memory: %+v", n)
		}
	}
}
