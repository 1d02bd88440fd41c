package aig

import (
	"slices"

	"gatewright/api"
	"gatewright/fault"
)

// mostMade bounds the gates that are made, needed or not: whoever needs so many has far too many at the end.
const mostMade = 1 << 20

// gates holds and-gates, each but once.
type gates struct {
	first int // the variable of the first gate
	ands  [][2]int
	known map[[2]int]int // the literal of the gate that has two literals, the greater one first
}

func newGates(first int) *gates {
	return &gates{first: first, known: make(map[[2]int]int)}
}

// and gives a literal that is worth true if both are: of a gate, if it takes one.
func (g *gates) and(one, other int) int {
	key := [2]int{max(one, other), min(one, other)}
	switch {
	case key[1] == no || key[0] == opposite(key[1]):
		return no
	case key[1] == yes || key[0] == key[1]:
		return key[0]
	}
	literal, there := g.known[key]
	if !there {
		if len(g.ands) == mostMade {
			fault.Throw(api.FBig, 0)
		}
		literal = 2 * (g.first + len(g.ands))
		g.ands = append(g.ands, key)
		g.known[key] = literal
	}
	return literal
}

func (g *gates) or(one, other int) int {
	return opposite(g.and(opposite(one), opposite(other)))
}

func (g *gates) xor(one, other int) int {
	both := g.and(one, other)
	neither := g.and(opposite(one), opposite(other))
	return g.and(opposite(both), opposite(neither))
}

// choose is one of two literals. If one of them is what is asked, or its opposite, it is known where it is chosen.
func (g *gates) choose(asked, then, other int) int {
	if then == asked || then == opposite(asked) {
		then = then ^ opposite(asked)
	}
	if other == asked || other == opposite(asked) {
		other = other ^ asked
	}
	switch {
	case then == other:
		return then
	case then == yes:
		return g.or(asked, other)
	case other == yes:
		return g.or(opposite(asked), then)
	}
	return g.or(g.and(asked, then), g.and(opposite(asked), other))
}

// all is true if all literals are; no way through its gates is longer than need be.
func (g *gates) all(literals []int) int {
	return folded(literals, yes, g.and)
}

func (g *gates) some(literals []int) int {
	return folded(literals, no, g.or)
}

func (g *gates) odd(literals []int) int {
	return folded(literals, no, g.xor)
}

// folded joins literals two by two, until one is left; of none there comes another one.
func folded(literals []int, none int, join func(one, other int) int) int {
	if len(literals) == 0 {
		return none
	}
	row := slices.Clone(literals)
	for len(row) > 1 {
		half := len(row) / 2
		for i := range half {
			row[i] = join(row[2*i], row[2*i+1])
		}
		if len(row)%2 == 1 {
			row[half] = row[len(row)-1]
			half++
		}
		row = row[:half]
	}
	return row[0]
}

// hashed makes a valid graph anew, gate by gate.
func hashed(g *api.Graph) api.Graph {
	first := firstGate(g)
	made := newGates(first)
	literals := make([]int, variables(g)) // the new literal of each variable
	for v := range first {
		literals[v] = 2 * v
	}
	renewed := func(literal int) int { return literals[literal/2] ^ literal&1 }
	for i, and := range g.Ands {
		literals[first+i] = made.and(renewed(and[0]), renewed(and[1]))
	}
	h := api.Graph{Inputs: g.Inputs, Ands: made.ands}
	for _, l := range g.Latches {
		h.Latches = append(h.Latches, api.Latch{Next: renewed(l.Next), Init: l.Init})
	}
	for _, o := range g.Outputs {
		h.Outputs = append(h.Outputs, renewed(o))
	}
	return h
}
