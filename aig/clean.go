package aig

import "gatewright/api"

// cleaned gives a graph with the gates that are needed alone; and, if not all latches are to stay, with the latches alone on which an output hangs.
func cleaned(g *api.Graph, allLatches bool) api.Graph {
	s := sifter{Graph: g, isNeeded: make([]bool, variables(g))}
	for v := range 1 + g.Inputs {
		s.isNeeded[v] = true
	}
	if allLatches {
		for i := range g.Latches {
			s.need(2 * (1 + g.Inputs + i))
		}
	}
	for _, o := range g.Outputs {
		s.need(o)
	}
	for len(s.waiting) > 0 {
		last := len(s.waiting) - 1
		v := s.waiting[last]
		s.waiting = s.waiting[:last]
		s.look(v)
	}
	return s.kept()
}

// sifter finds the variables of a graph that are needed.
type sifter struct {
	*api.Graph
	isNeeded []bool
	waiting  []int // variables that have not been looked at
}

func (s *sifter) need(literal int) {
	if v := literal / 2; !s.isNeeded[v] {
		s.isNeeded[v] = true
		s.waiting = append(s.waiting, v)
	}
}

// look finds what a latch or a gate hangs on.
func (s *sifter) look(v int) {
	first := firstGate(s.Graph)
	if v < first {
		s.need(s.Latches[v-1-s.Inputs].Next)
		return
	}
	s.need(s.Ands[v-first][0])
	s.need(s.Ands[v-first][1])
}

// kept gives the graph of what is needed.
func (s *sifter) kept() api.Graph {
	numbers := make([]int, len(s.isNeeded))
	next := 0
	for v, isNeeded := range s.isNeeded {
		numbers[v] = next
		if isNeeded {
			next++
		}
	}
	renumbered := func(literal int) int { return 2*numbers[literal/2] + literal%2 }
	h := api.Graph{Inputs: s.Inputs}
	for i, l := range s.Latches {
		if s.isNeeded[1+s.Inputs+i] {
			h.Latches = append(h.Latches, api.Latch{Next: renumbered(l.Next), Init: l.Init})
		}
	}
	for i, and := range s.Ands {
		if s.isNeeded[firstGate(s.Graph)+i] {
			h.Ands = append(h.Ands, [2]int{renumbered(and[0]), renumbered(and[1])})
		}
	}
	for _, o := range s.Outputs {
		h.Outputs = append(h.Outputs, renumbered(o))
	}
	return h
}
