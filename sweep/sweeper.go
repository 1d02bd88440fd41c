package sweep

import "gatewright/api"

// sweeper goes through layers from below. Each gate that it has met is the same as another variable, or stays; then its literals are of variables that stay.
type sweeper struct {
	layers
	guesses
	budget
	same  []int          // by variable: a literal that is worth the same; its own, if it stays
	gates map[[2]int]int // by their literals: the variables of gates
	cuts  cuts
	sums  sums
}

func newSweeper(l layers, p patterns) *sweeper {
	s := &sweeper{
		layers:  l,
		guesses: l.guess(p),
		budget:  newBudget(len(l.ands)),
		same:    make([]int, l.variables()),
		gates:   make(map[[2]int]int),
		cuts:    make(cuts),
		sums:    newSums(),
	}
	for v := range s.same {
		s.same[v] = 2 * v
	}
	for v := range l.first {
		s.stay(v)
	}
	return s
}

// sweep meets all gates. Those of one level are compared with others together, for none of them hangs on another.
func (s *sweeper) sweep() {
	from := s.first
	for _, end := range s.ends {
		var waiting []int
		for v := from; v < end; v++ {
			if !s.meet(v) {
				waiting = append(waiting, v)
			}
		}
		for len(waiting) > 0 {
			waiting = s.compare(waiting)
		}
		from = end
	}
}

// meet renews the literals of a gate, and asks whether they show what it is the same as.
func (s *sweeper) meet(v int) bool {
	and := &s.ands[v-s.first]
	*and = ordered(s.renewed(and[0]), s.renewed(and[1]))
	literal, isKnown := s.simple(*and)
	if !isKnown {
		s.gates[*and] = v
		literal, isKnown = s.summed(v)
	}
	if isKnown {
		s.merge(v, s.renewed(literal))
	}
	return isKnown
}

// renewed is a literal of a variable that stays, as far as is known.
func (s *sweeper) renewed(literal int) int {
	for s.same[literal/2]/2 != literal/2 {
		literal = s.same[literal/2] ^ literal%2
	}
	return literal
}

// simple tells what a gate is the same as, if its literals alone show it.
func (s *sweeper) simple(and [2]int) (literal int, isKnown bool) {
	const no, yes = 0, 1
	switch {
	case and[1] == no || and[0] == and[1]^1:
		return no, true
	case and[1] == yes || and[0] == and[1]:
		return and[0], true
	}
	v, isKnown := s.gates[and]
	return 2 * v, isKnown
}

// summed tells what a gate is the same as, if it is an exclusive or of which that is known. If it is one of which it is not, that is noted.
func (s *sweeper) summed(v int) (literal int, isKnown bool) {
	s.cuts.note(v, s.ands[v-s.first])
	var unknown []sum
	for _, c := range s.cuts[v] {
		leaves, isSum := c.sum()
		if !isSum {
			continue
		}
		x := s.sums.expanded(leaves)
		if literal, isKnown = s.sums.literal(x); isKnown {
			return literal, true
		}
		unknown = append(unknown, x)
	}
	if len(unknown) > 0 {
		s.sums.note(v, unknown[0])
	}
	return 0, false
}

// merge makes a variable the same as a literal.
func (s *sweeper) merge(v, literal int) {
	s.same[v] = literal
	s.Drop(v)
}

// left is what the graph becomes whose layers have been swept.
func (s *sweeper) left(g *api.Graph, numbers []int) api.Graph {
	first := 1 + g.Inputs + len(g.Latches)
	h := api.Graph{Inputs: g.Inputs}
	made := make([]int, s.variables()) // the new graph's variables
	copy(made[1:], s.heads)
	literal := func(l int) int { return 2*made[l/2] + l%2 }
	for v := s.first; v < s.variables(); v++ {
		if s.stays[v] {
			made[v] = first + len(h.Ands)
			and := s.ands[v-s.first]
			h.Ands = append(h.Ands, ordered(literal(and[0]), literal(and[1])))
		}
	}
	swept := func(l int) int {
		if l/2 < first {
			return l
		}
		return literal(s.renewed(2*numbers[l/2] + l%2))
	}
	for _, l := range g.Latches {
		h.Latches = append(h.Latches, api.Latch{Next: swept(l.Next), Init: l.Init})
	}
	for _, o := range g.Outputs {
		h.Outputs = append(h.Outputs, swept(o))
	}
	return h
}
