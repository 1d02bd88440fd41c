package sat

import (
	"cmp"
	"slices"
)

// tidy drops what is true for ever, and most of the learnt clauses that have not been used of late.
func (s *solver) tidy() {
	isDropped := make([]bool, len(s.notes))
	for _, i := range s.worse() {
		isDropped[i] = true
	}
	for i, n := range s.notes {
		isDropped[i] = isDropped[i] || slices.ContainsFunc(s.literals(n.at), s.isFact)
	}
	for _, l := range s.trail {
		if c := s.reason[l.variable()]; c != nowhere {
			i := s.cells[c+noteCell]
			isDropped[i] = false
			s.reason[l.variable()] = place(i)
		}
	}
	moved := s.drop(isDropped)
	for _, l := range s.trail {
		if i := s.reason[l.variable()]; i != nowhere {
			s.reason[l.variable()] = moved[i]
		}
	}
}

// isFact asks whether a literal is true on level 0.
func (s *solver) isFact(l literal) bool {
	return s.value[l] > 0 && s.level[l.variable()] == 0
}

// worse tells the notes of the clauses that may be dropped, but for the best quarter of them.
func (s *solver) worse() []int {
	var list []int
	for i := range s.notes {
		n := &s.notes[i]
		switch {
		case n.glue <= bestGlue:
		case n.used > 0:
			n.used--
		default:
			list = append(list, i)
		}
	}
	slices.SortFunc(list, func(i, j int) int {
		a, b := s.notes[i], s.notes[j]
		return cmp.Or(cmp.Compare(b.glue, a.glue), cmp.Compare(len(s.literals(b.at)), len(s.literals(a.at))), cmp.Compare(i, j))
	})
	return list[:len(list)*3/4]
}
