package stream

import (
	"iter"
	"math/bits"

	"gatewright/api"
)

const (
	sizes  = 1 << 16 // among so many numbers is one of a shape
	tables = 1 << 16 // so many tables of four inputs there are
	truths = 2
)

// cellChoices tells among how many sources the cells of a column choose.
func cellChoices(s api.Shape, column int) int {
	if column == 0 {
		return 2 + s.Inputs + s.Regs
	}
	return 2 + s.Rows
}

// endChoices tells among how many sources registers and outputs choose.
func endChoices(s api.Shape) int { return 2 + s.Rows }

// width tells how many bits it takes to tell so many numbers apart.
func width(choices int) int { return bits.Len(uint(choices - 1)) }

// isComplete asks whether a configuration has as many columns, cells, registers and outputs as its shape says.
func isComplete(c *api.Config) bool {
	for _, cells := range c.Cells {
		if len(cells) != c.Shape.Rows {
			return false
		}
	}
	return len(c.Cells) == c.Shape.Cols && len(c.Regs) == c.Shape.Regs && len(c.Outs) == c.Shape.Outputs
}

// fields goes through the numbers of a configuration as they stand in the stream. With each one it tells among how many (from 0 on) it is one.
func fields(c *api.Config) iter.Seq2[int, int] {
	return func(yield func(int, int) bool) {
		for _, part := range []iter.Seq2[int, int]{shapeFields(c), cellFields(c), regFields(c), outFields(c)} {
			for number, choices := range part {
				if !yield(number, choices) {
					return
				}
			}
		}
	}
}

func shapeFields(c *api.Config) iter.Seq2[int, int] {
	return func(yield func(int, int) bool) {
		s := c.Shape
		for _, number := range [5]int{s.Inputs, s.Outputs, s.Regs, s.Rows, s.Cols} {
			if !yield(number, sizes) {
				return
			}
		}
	}
}

func cellFields(c *api.Config) iter.Seq2[int, int] {
	return func(yield func(int, int) bool) {
		for column, cells := range c.Cells {
			choices := cellChoices(c.Shape, column)
			for _, cell := range cells {
				if !yield(cell.Bits, tables) {
					return
				}
				for _, sel := range cell.Sel {
					if !yield(sel, choices) {
						return
					}
				}
			}
		}
	}
}

func regFields(c *api.Config) iter.Seq2[int, int] {
	return func(yield func(int, int) bool) {
		for _, reg := range c.Regs {
			first := 0
			if reg.Init {
				first = 1
			}
			if !yield(first, truths) || !yield(reg.Sel, endChoices(c.Shape)) {
				return
			}
		}
	}
}

func outFields(c *api.Config) iter.Seq2[int, int] {
	return func(yield func(int, int) bool) {
		for _, sel := range c.Outs {
			if !yield(sel, endChoices(c.Shape)) {
				return
			}
		}
	}
}
