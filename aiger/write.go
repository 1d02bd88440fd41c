package aiger

import (
	"strconv"

	"gatewright/api"
)

// written is a valid graph in a layout.
func written(g *api.Graph, l layout) []byte {
	h := headOf(g)
	b := append([]byte(l.word()), ' ')
	b = appendLine(b, h[:]...)
	if l == asText {
		for i := range g.Inputs {
			b = appendLine(b, 2*(1+i))
		}
	}
	for i := range g.Latches {
		b = appendLatch(b, l, h.latch(i), &g.Latches[i])
	}
	for _, o := range g.Outputs {
		b = appendLine(b, o)
	}
	for i, and := range g.Ands {
		b = appendGate(b, l, h.gate(i), and)
	}
	return b
}

// appendLine puts a line of numbers behind what there is.
func appendLine(b []byte, list ...int) []byte {
	for i, n := range list {
		if i > 0 {
			b = append(b, ' ')
		}
		b = strconv.AppendInt(b, int64(n), 10)
	}
	return append(b, '\n')
}

func appendLatch(b []byte, l layout, own int, latch *api.Latch) []byte {
	var list []int
	if l == asText {
		list = append(list, own)
	}
	list = append(list, latch.Next)
	if latch.Init {
		list = append(list, 1)
	}
	return appendLine(b, list...)
}

func appendGate(b []byte, l layout, own int, and [2]int) []byte {
	if l == asText {
		return appendLine(b, own, and[0], and[1])
	}
	greater, other := max(and[0], and[1]), min(and[0], and[1])
	return appendPacked(appendPacked(b, own-greater), greater-other)
}

// appendPacked puts a number behind what there is, seven bits a byte.
func appendPacked(b []byte, n int) []byte {
	for n >= topBit {
		b = append(b, byte(n%topBit+topBit))
		n /= topBit
	}
	return append(b, byte(n))
}
