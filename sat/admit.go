package sat

// sifter makes plain lists of clauses.
type sifter struct {
	isMet []bool // by literal: false between two clauses
	list  []literal
}

func (f *sifter) grow(more int) {
	f.isMet = append(f.isMet, make([]bool, 2*more)...)
}

// plain gives each literal of a clause once, and tells whether some literal and its opposite stand in it. The list is good until the next one.
func (f *sifter) plain(c []int) (list []literal, isTrue bool) {
	list = f.list[:0]
	for _, n := range c {
		l := literalOf(n)
		isTrue = isTrue || f.isMet[l.opposite()]
		if !f.isMet[l] {
			f.isMet[l] = true
			list = append(list, l)
		}
	}
	for _, l := range list {
		f.isMet[l] = false
	}
	f.list = list
	return list, isTrue
}

// takeAll takes clauses of the formula, as long as they can all hold.
func (s *solver) takeAll(clauses [][]int) {
	for _, c := range clauses {
		if s.book.isEnded {
			return
		}
		s.admit(c)
	}
}

// admit takes one of the formula's clauses, on level 0.
func (s *solver) admit(c []int) {
	list, isTrue := s.sifter.plain(c)
	if isTrue {
		return
	}
	number := given
	if len(list) < len(c) {
		number = s.book.add(list, nil)
	}
	s.keep(list, number)
}

// keep keeps a clause, or what it tells by itself, on level 0. The literals of it that are open are to be watched.
func (s *solver) keep(list []literal, number int32) {
	open := 0
	for i, l := range list {
		switch s.value[l] {
		case 1:
			return
		case 0:
			list[open], list[i] = l, list[open]
			open++
		}
	}
	if open > 1 {
		s.lay(list, number, 0)
		return
	}
	sources := []int32{number}
	for _, l := range list[open:] {
		sources = append(sources, s.fact[l.variable()])
	}
	switch {
	case open == 0:
		s.book.end(sources)
	case len(list) > 1:
		s.setFact(list[0], s.book.addSilent(sources))
	default:
		s.setFact(list[0], number)
	}
}
