package stream

import (
	"gatewright/api"
	"gatewright/place"
)

// reader takes bits from where it stands.
type reader struct {
	bytes []byte
	at    int // the number of a bit
}

// read gives the configuration of which bytes tell, if they do: whoever asks must hold its bytes against them. Where there is no shape, it is the zero value.
func read(b []byte) api.Config {
	r := &reader{bytes: b, at: 8 * len(mark)}
	s := r.shape()
	if !place.IsShape(s) {
		return api.Config{}
	}
	c := api.Config{Shape: s, Cells: make([][]api.Cell, s.Cols), Regs: make([]api.Cfg, s.Regs), Outs: make([]int, s.Outputs)}
	for column := range c.Cells {
		c.Cells[column] = r.cells(s.Rows, cellChoices(s, column))
	}
	for i := range c.Regs {
		c.Regs[i].Init = r.take(truths) == 1
		c.Regs[i].Sel = r.take(endChoices(s))
	}
	for i := range c.Outs {
		c.Outs[i] = r.take(endChoices(s))
	}
	return c
}

func (r *reader) shape() api.Shape {
	var numbers [5]int
	for i := range numbers {
		numbers[i] = r.take(sizes)
	}
	return api.Shape{Inputs: numbers[0], Outputs: numbers[1], Regs: numbers[2], Rows: numbers[3], Cols: numbers[4]}
}

func (r *reader) cells(rows, choices int) []api.Cell {
	cells := make([]api.Cell, rows)
	for i := range cells {
		cells[i].Bits = r.take(tables)
		for k := range cells[i].Sel {
			cells[i].Sel[k] = r.take(choices)
		}
	}
	return cells
}

// take gives the next number, which is one among so many.
func (r *reader) take(choices int) int {
	number := 0
	for range width(choices) {
		number = number<<1 | r.bit()
	}
	return number
}

// bit gives the next bit; behind the last one there are zeros.
func (r *reader) bit() int {
	if r.at/8 >= len(r.bytes) {
		return 0
	}
	bit := r.bytes[r.at/8] >> (7 - r.at%8) & 1
	r.at++
	return int(bit)
}
