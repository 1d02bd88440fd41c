package stream

import (
	"fmt"
	"hash/crc32"
	"math/rand"
	"strings"

	"gatewright/api"
)

// sourcesOf tells among how many sources the selectors of a column choose, or those behind all columns.
func sourcesOf(s api.Shape, column int) int {
	if column == 0 {
		return 2 + s.Inputs + s.Regs
	}
	return 2 + s.Rows
}

// grownConfig makes a random configuration of a shape that is valid; often with the greatest numbers that there may be.
func grownConfig(r *rand.Rand, s api.Shape) api.Config {
	below := func(n int) int {
		if r.Intn(4) == 0 {
			return n - 1
		}
		return r.Intn(n)
	}
	c := api.Config{Shape: s, Cells: make([][]api.Cell, s.Cols), Regs: make([]api.Cfg, s.Regs), Outs: make([]int, s.Outputs)}
	for column := range c.Cells {
		c.Cells[column] = make([]api.Cell, s.Rows)
		for i := range c.Cells[column] {
			cell := api.Cell{Bits: below(1 << 16)}
			for k := range cell.Sel {
				cell.Sel[k] = below(sourcesOf(s, column))
			}
			c.Cells[column][i] = cell
		}
	}
	for i := range c.Regs {
		c.Regs[i] = api.Cfg{Sel: below(2 + s.Rows), Init: r.Intn(2) == 0}
	}
	for i := range c.Outs {
		c.Outs[i] = below(2 + s.Rows)
	}
	return c
}

// smallShape makes a random shape with few cells.
func smallShape(r *rand.Rand) api.Shape {
	return api.Shape{Inputs: r.Intn(9), Outputs: r.Intn(5), Regs: r.Intn(6), Rows: 1 + r.Intn(7), Cols: 1 + r.Intn(4)}
}

// configCopy gives the same in other memory.
func configCopy(c api.Config) api.Config {
	c.Regs, c.Outs = append([]api.Cfg{}, c.Regs...), append([]int{}, c.Outs...)
	cells := make([][]api.Cell, len(c.Cells))
	for i := range cells {
		cells[i] = append([]api.Cell{}, c.Cells[i]...)
	}
	c.Cells = cells
	return c
}

// digits writes a number below n, in so many digits as n-1 has, but at least one.
func digits(number, n int) string {
	return fmt.Sprintf("%0*b", len(fmt.Sprintf("%b", n-1)), number)
}

// bitText gives the bits behind the mark by the words of the chapter, as digits; without the zeros at the end.
func bitText(c api.Config) string {
	var text strings.Builder
	s := c.Shape
	for _, number := range []int{s.Inputs, s.Outputs, s.Regs, s.Rows, s.Cols} {
		text.WriteString(digits(number, 1<<16))
	}
	for column, cells := range c.Cells {
		for _, cell := range cells {
			text.WriteString(digits(cell.Bits, 1<<16))
			for _, sel := range cell.Sel {
				text.WriteString(digits(sel, sourcesOf(s, column)))
			}
		}
	}
	for _, reg := range c.Regs {
		if reg.Init {
			text.WriteString("1")
		} else {
			text.WriteString("0")
		}
		text.WriteString(digits(reg.Sel, 2+s.Rows))
	}
	for _, sel := range c.Outs {
		text.WriteString(digits(sel, 2+s.Rows))
	}
	return text.String()
}

// packed gives the bytes of digits; where there is no whole byte, with zeros.
func packed(text string) []byte {
	b := make([]byte, (len(text)+7)/8)
	for i, digit := range text {
		if digit == '1' {
			b[i/8] += 1 << (7 - i%8)
		}
	}
	return b
}

// signed puts the check sum behind bytes, as the library has it.
func signed(b []byte) []byte {
	sum := crc32.ChecksumIEEE(b)
	return append(append([]byte{}, b...), byte(sum>>24), byte(sum>>16), byte(sum>>8), byte(sum))
}

// bytesOf gives the bytes of a configuration by the words of the chapter.
func bytesOf(c api.Config) []byte {
	return signed(append([]byte("GWB1"), packed(bitText(c))...))
}
