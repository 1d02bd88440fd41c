package fabric

import (
	"hash/crc32"
	"math/rand"
	"slices"

	"gatewright/api"
)

// grownConfig makes a random configuration of a shape that is valid.
func grownConfig(r *rand.Rand, s api.Shape) api.Config {
	c := api.Config{Shape: s}
	sources := 2 + s.Inputs + s.Regs
	for range s.Cols {
		cells := make([]api.Cell, s.Rows)
		for i := range cells {
			cells[i].Bits = r.Intn(1 << 16)
			for k := range cells[i].Sel {
				cells[i].Sel[k] = r.Intn(sources)
			}
		}
		c.Cells = append(c.Cells, cells)
		sources = 2 + s.Rows
	}
	for range s.Regs {
		c.Regs = append(c.Regs, api.Cfg{Sel: r.Intn(sources), Init: r.Intn(2) == 0})
	}
	for range s.Outputs {
		c.Outs = append(c.Outs, r.Intn(sources))
	}
	return c
}

// smallShape makes a random shape with few cells.
func smallShape(r *rand.Rand) api.Shape {
	return api.Shape{Inputs: r.Intn(6), Outputs: r.Intn(6), Regs: r.Intn(6), Rows: 1 + r.Intn(7), Cols: 1 + r.Intn(5)}
}

// rowsOf makes a random trace whose rows have some inputs too few, or too many.
func rowsOf(r *rand.Rand, inputs, cycles int) [][]bool {
	trace := make([][]bool, cycles)
	for i := range trace {
		trace[i] = make([]bool, max(0, inputs+r.Intn(5)-2))
		for k := range trace[i] {
			trace[i][k] = r.Intn(2) == 0
		}
	}
	return trace
}

// traceCopy gives the same in other memory.
func traceCopy(trace [][]bool) [][]bool {
	rows := make([][]bool, len(trace))
	for i := range trace {
		rows[i] = slices.Clone(trace[i])
	}
	return rows
}

// played gives what a configuration shows, by the words of chapter 12.
func played(c api.Config, trace [][]bool) [][]bool {
	var registers []bool
	for _, reg := range c.Regs {
		registers = append(registers, reg.Init)
	}
	rows := [][]bool{}
	for _, row := range trace {
		inputs := make([]bool, c.Shape.Inputs)
		copy(inputs, row)
		values := slices.Concat([]bool{false, true}, inputs, registers)
		for _, column := range c.Cells {
			now := []bool{false, true}
			for _, cell := range column {
				bit := 0
				for i, weight := range []int{1, 2, 4, 8} {
					if values[cell.Sel[i]] {
						bit += weight
					}
				}
				now = append(now, cell.Bits>>bit%2 == 1)
			}
			values = now
		}
		shown, next := []bool{}, []bool{}
		for _, sel := range c.Outs {
			shown = append(shown, values[sel])
		}
		for _, reg := range c.Regs {
			next = append(next, values[reg.Sel])
		}
		rows, registers = append(rows, shown), next
	}
	return rows
}

// signed puts the check sum behind bytes, as the library has it.
func signed(b []byte) []byte {
	sum := crc32.ChecksumIEEE(b)
	return append(slices.Clone(b), byte(sum>>24), byte(sum>>16), byte(sum>>8), byte(sum))
}
