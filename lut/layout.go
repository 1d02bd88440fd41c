package lut

import (
	"slices"

	"gatewright/api"
)

// noSignal stands where no signal is worth a literal.
const noSignal = -1

// layout is a net whose tables are laid down one behind the other.
type layout struct {
	net      api.Tables
	signals  []int  // of literals
	isWanted []bool // literals: whether outputs or latches take them
}

// laid gives the net of the tables that a cover tells.
func laid(g *api.Graph, c *cover) api.Tables {
	l := newLayout(g)
	for v := 1; v < firstGate(g); v++ {
		if l.isWanted[2*v+1] {
			l.signals[2*v+1] = l.table([]int{l.signals[2*v]}, 0b01)
		}
	}
	for i := len(c.gates) - 1; i >= 0; i-- {
		l.gate(c.gates[i], c.leaves.at(i), c.bits[i])
	}
	for _, latch := range g.Latches {
		l.net.Next = append(l.net.Next, l.signals[latch.Next])
	}
	for _, o := range g.Outputs {
		l.net.Outputs = append(l.net.Outputs, l.signals[o])
	}
	return l.net
}

// newLayout has the signals that need no table.
func newLayout(g *api.Graph) *layout {
	literals := 2 * (firstGate(g) + len(g.Ands))
	l := &layout{api.Tables{Inputs: g.Inputs}, make([]int, literals), make([]bool, literals)}
	for _, latch := range g.Latches {
		l.net.Init = append(l.net.Init, latch.Init)
	}
	for i := range l.signals {
		l.signals[i] = noSignal
	}
	l.signals[0], l.signals[1] = 0, 1
	for v := 1; v < firstGate(g); v++ {
		l.signals[2*v] = 1 + v
	}
	for _, end := range ends(g) {
		l.isWanted[end] = true
	}
	return l
}

// gate lays down the table of a gate: inverted if it is wanted so alone, and twice if it is wanted both ways, for an inverter behind it would be one table more on the way.
func (l *layout) gate(v int, leaves []int, bits int) {
	ins := make([]int, len(leaves))
	for i, leaf := range leaves {
		ins[i] = l.signals[2*leaf]
		if ins[i] == noSignal {
			ins[i] = l.signals[2*leaf+1]
			bits = turned(bits, i, len(leaves))
		}
	}
	if l.isWanted[2*v] || !l.isWanted[2*v+1] {
		l.signals[2*v] = l.table(ins, bits)
	}
	if l.isWanted[2*v+1] {
		allBits := 1<<(1<<len(ins)) - 1
		l.signals[2*v+1] = l.table(ins, bits^allBits)
	}
}

// table lays down a table, and tells its signal.
func (l *layout) table(ins []int, bits int) int {
	l.net.Tables = append(l.net.Tables, api.Table{Ins: slices.Clone(ins), Bits: bits})
	return signals(&l.net) - 1
}

// turned gives the bits of a table of which one input is inverted.
func turned(bits, place, count int) int {
	all := 0
	for k := range 1 << count {
		all |= bits >> (k ^ 1<<place) & 1 << k
	}
	return all
}
