package sat

// set makes a literal true on the last level, for a clause has no other one left.
func (s *solver) set(l literal, c place) {
	v := l.variable()
	s.value[l], s.value[l.opposite()] = 1, -1
	s.level[v] = int32(len(s.begins))
	s.reason[v] = c
	s.trail = append(s.trail, l)
}

// setFact makes a literal true on level 0.
func (s *solver) setFact(l literal, number int32) {
	s.set(l, nowhere)
	s.fact[l.variable()] = number
}

// backTo leaves all levels behind one that is given.
func (s *solver) backTo(level int) {
	if level >= len(s.begins) {
		return
	}
	from := s.begins[level]
	for i := len(s.trail) - 1; i >= from; i-- {
		l := s.trail[i]
		v := l.variable()
		s.value[l], s.value[l.opposite()] = 0, 0
		s.saved[v] = !l.isInverted()
		s.insert(v)
	}
	s.trail, s.begins, s.looked = s.trail[:from], s.begins[:level], from
}

// propagate sets what clauses with one literal left tell, and gives a clause that has none left.
func (s *solver) propagate() place {
	for s.looked < len(s.trail) {
		l := s.trail[s.looked].opposite()
		s.looked++
		if c := s.wake(l); c != nowhere {
			return c
		}
	}
	return nowhere
}

// wake looks at the clauses that watch a literal which has become false, and gives one that has no literal left.
func (s *solver) wake(l literal) place {
	list := s.watches[l]
	s.looks += len(list)
	kept := 0
	found := nowhere
watching:
	for i, w := range list {
		if s.value[w.other] <= 0 && !w.isShort() {
			c := s.literals(w.at)
			if c[0] == l {
				c[0], c[1] = c[1], l
			}
			w.other = c[0]
			if k := s.nextOf(w.at); k > 0 {
				c[1], c[k] = c[k], l
				s.watches[c[1]] = append(s.watches[c[1]], w)
				continue
			}
		}
		list[kept] = w
		kept++
		switch s.value[w.other] {
		case 0:
			s.set(w.other, w.clause())
		case -1:
			found = w.clause()
			kept += copy(list[kept:], list[i+1:])
			break watching
		}
	}
	s.watches[l] = list[:kept]
	return found
}

// nextOf finds a literal of a clause to be watched in the place of the second one; 0: there is none, or no need. It goes on where it has found the last one, so that a long clause is not gone through again and again.
func (s *solver) nextOf(c place) int {
	list := s.literals(c)
	if s.value[list[0]] > 0 {
		return 0
	}
	first := int(s.cells[c+nextCell])
	for k := first; k < len(list); k++ {
		if s.value[list[k]] >= 0 {
			s.cells[c+nextCell] = literal(k)
			return k
		}
	}
	for k := 2; k < first; k++ {
		if s.value[list[k]] >= 0 {
			s.cells[c+nextCell] = literal(k)
			return k
		}
	}
	return 0
}
