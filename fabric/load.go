package fabric

import "gatewright/api"

const (
	mark       = "GWB1"     // what a bit stream begins with
	polynomial = 0xedb88320 // of CRC-32, its highest power in the lowest bit
	sealLength = 4          // bytes of the check sum
)

const (
	mostPins = 500 // inputs, outputs, registers of a fabric
	mostRows = 500
	mostCols = 100
)

// loader reads a bit stream from its first to its last bit. Whether something was wrong it tells at the end.
type loader struct {
	bytes   []byte // without mark and check sum
	at      int    // the number of a bit
	isWrong bool
}

// loaded gives the configuration of a bit stream, and whether it is one.
func loaded(b []byte) (api.Config, bool) {
	ahead := len(b) - sealLength
	if ahead < len(mark) || string(b[:len(mark)]) != mark || !isSum(b[ahead:], b[:ahead]) {
		return api.Config{}, false
	}
	l := &loader{bytes: b[len(mark):ahead]}
	c := api.Config{Shape: l.shape()}
	if l.isWrong {
		return api.Config{}, false
	}
	l.fill(&c)
	l.end()
	return c, !l.isWrong
}

// isSum asks whether four bytes are the check sum of others, which is reckoned bit by bit.
func isSum(four, others []byte) bool {
	sum := ^uint32(0)
	for _, one := range others {
		sum ^= uint32(one)
		for range 8 {
			sum = sum>>1 ^ sum&1*polynomial
		}
	}
	told := uint32(four[0])<<24 | uint32(four[1])<<16 | uint32(four[2])<<8 | uint32(four[3])
	return ^sum == told
}

func (l *loader) shape() api.Shape {
	var s api.Shape
	s.Inputs = l.size(0, mostPins)
	s.Outputs = l.size(0, mostPins)
	s.Regs = l.size(0, mostPins)
	s.Rows = l.size(1, mostRows)
	s.Cols = l.size(1, mostCols)
	return s
}

// fill reads what stands behind the shape.
func (l *loader) fill(c *api.Config) {
	s := c.Shape
	sources := 2 + s.Inputs + s.Regs
	for range s.Cols {
		c.Cells = append(c.Cells, l.column(s.Rows, sources))
		sources = 2 + s.Rows
	}
	for range s.Regs {
		isOne := l.number(1) == 1
		c.Regs = append(c.Regs, api.Cfg{Sel: l.selector(sources), Init: isOne})
	}
	for range s.Outputs {
		c.Outs = append(c.Outs, l.selector(sources))
	}
}

func (l *loader) column(rows, sources int) []api.Cell {
	cells := make([]api.Cell, rows)
	for i := range cells {
		cells[i].Bits = l.number(16)
		for k := range cells[i].Sel {
			cells[i].Sel[k] = l.selector(sources)
		}
	}
	return cells
}

// size reads a number of a shape.
func (l *loader) size(least, most int) int {
	number := l.number(16)
	l.isWrong = l.isWrong || number < least || number > most
	return number
}

// selector reads a number below that of the sources.
func (l *loader) selector(sources int) int {
	number := l.number(width(sources))
	l.isWrong = l.isWrong || number >= sources
	return number
}

// width tells with how many bits at least so many numbers can be told.
func width(numbers int) int {
	least := 0
	for 1<<least < numbers {
		least++
	}
	return least
}

// number reads so many bits, the highest first.
func (l *loader) number(width int) int {
	number := 0
	for range width {
		number = number<<1 | l.bit()
	}
	return number
}

func (l *loader) bit() int {
	if l.at >= 8*len(l.bytes) {
		l.isWrong = true
		return 0
	}
	bit := l.bytes[l.at/8] >> (7 - l.at%8) & 1
	l.at++
	return int(bit)
}

// end asks whether nothing is left but zeros up to a whole byte.
func (l *loader) end() {
	left := 8*len(l.bytes) - l.at
	l.isWrong = l.isWrong || left >= 8 || l.number(left) != 0
}
