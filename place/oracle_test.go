package place

import (
	"math/rand"
	"reflect"
	"slices"
	"testing"

	"gatewright/api"
	"gatewright/lut"
)

// isConfig asks whether a configuration is valid, by the words of chapters 12 and 13.
func isConfig(c api.Config) bool {
	s := c.Shape
	between := func(number, least, most int) bool { return number >= least && number <= most }
	right := between(s.Inputs, 0, 500) && between(s.Outputs, 0, 500) && between(s.Regs, 0, 500) && between(s.Rows, 1, 500) && between(s.Cols, 1, 100)
	right = right && len(c.Cells) == s.Cols && len(c.Regs) == s.Regs && len(c.Outs) == s.Outputs
	for i, column := range c.Cells {
		sources := 2 + s.Rows
		if i == 0 {
			sources = 2 + s.Inputs + s.Regs
		}
		right = right && len(column) == s.Rows
		for _, cell := range column {
			right = right && between(cell.Bits, 0, 65535)
			for _, sel := range cell.Sel {
				right = right && between(sel, 0, sources-1)
			}
		}
	}
	for _, sel := range c.Outs {
		right = right && between(sel, 0, 1+s.Rows)
	}
	for _, reg := range c.Regs {
		right = right && between(reg.Sel, 0, 1+s.Rows)
	}
	return right
}

// told gives what outputs and registers choose in one cycle.
func told(c api.Config, row, registers []bool) (outs, next []bool) {
	inputs := make([]bool, c.Shape.Inputs)
	copy(inputs, row)
	values := slices.Concat([]bool{false, true}, inputs, registers)
	for _, column := range c.Cells {
		now := []bool{false, true}
		for _, cell := range column {
			bit := 0
			for i, weight := range []int{1, 2, 4, 8} {
				if values[cell.Sel[i]] {
					bit += weight
				}
			}
			now = append(now, cell.Bits>>bit%2 == 1)
		}
		values = now
	}
	for _, sel := range c.Outs {
		outs = append(outs, values[sel])
	}
	for _, reg := range c.Regs {
		next = append(next, values[reg.Sel])
	}
	return outs, next
}

// played gives what a configuration shows, cycle by cycle.
func played(c api.Config, trace [][]bool) [][]bool {
	var registers []bool
	for _, reg := range c.Regs {
		registers = append(registers, reg.Init)
	}
	rows := make([][]bool, len(trace))
	for i, row := range trace {
		rows[i], registers = told(c, row, registers)
	}
	return rows
}

// isSameNow asks whether a configuration's first outputs and registers tell in a cycle what those of a net do.
func isSameNow(n api.Tables, c api.Config, row, registers []bool) bool {
	still := api.Tables{Inputs: n.Inputs + len(n.Init), Tables: n.Tables, Outputs: slices.Concat(n.Outputs, n.Next)}
	want := lut.Run(still, [][]bool{slices.Concat(row, registers)})[0]
	outs, next := told(c, row, slices.Concat(registers, make([]bool, c.Shape.Regs-len(registers))))
	return slices.Equal(slices.Concat(outs[:len(n.Outputs)], next[:len(n.Next)]), want)
}

// holdConfig asks whether a configuration is one of that shape and shows what a net shows: at all rows and states if these are not too many, at some of them, and at traces.
func holdConfig(t *testing.T, r *rand.Rand, n api.Tables, s api.Shape, c api.Config) {
	t.Helper()
	if c.Shape != s || !isConfig(c) {
		t.Fatalf("on %+v: no configuration: %+v of %+v", s, c, n)
	}
	for i, first := range n.Init {
		if c.Regs[i].Init != first {
			t.Fatalf("on %+v: register %d begins otherwise: %+v of %+v", s, i, c, n)
		}
	}
	bits := n.Inputs + len(n.Init)
	for k := range 1 << min(bits, 6) {
		pattern := rowsOf(r, bits, 1)[0]
		for i := range min(bits, 6) {
			pattern[i] = k>>i%2 == 1
		}
		if !isSameNow(n, c, pattern[:n.Inputs], pattern[n.Inputs:]) {
			t.Fatalf("on %+v: at %v something else: %+v of %+v", s, pattern, c, n)
		}
	}
	trace := rowsOf(r, s.Inputs, 6)
	got := played(c, trace)
	for i, want := range lut.Run(n, trace) {
		if !slices.Equal(got[i][:len(n.Outputs)], want) {
			t.Fatalf("on %+v: cycle %d: %v, want %v: %+v of %+v", s, i, got[i], want, c, n)
		}
	}
}

// holdFit asks whether a net fits, and the configuration is right.
func holdFit(t *testing.T, r *rand.Rand, n api.Tables, s api.Shape) api.Config {
	t.Helper()
	c, err := Fit(n, s)
	if err != nil {
		t.Fatalf("does not fit on %+v: %+v", s, n)
	}
	holdConfig(t, r, n, s, c)
	return c
}

// holdFault asks whether Fit tells FFit and nothing else.
func holdFault(t *testing.T, name string, n api.Tables, s api.Shape) {
	t.Helper()
	c, err := Fit(n, s)
	fault, ok := err.(*api.Fault)
	if !ok || fault.Code != api.FFit || fault.At != 0 || !reflect.DeepEqual(c, api.Config{}) {
		t.Errorf("%s: on %+v: %v, %+v", name, s, err, c)
	}
}
