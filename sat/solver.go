package sat

import "math"

// solver looks for a model: it supposes something of one variable after the other, each on a level of its own, and learns a clause wherever that leads to a clause without a true literal.
type solver struct {
	store
	order
	book   book
	value  []int8  // by literal: 1 true, -1 false, 0 open
	level  []int32 // by variable: on which it was set
	reason []place // by variable: the clause that set it
	fact   []int32 // by variable, if it is set on level 0: its number in the book
	saved  []bool  // by variable: whether it was true when it was set last
	trail  []literal
	begins []int // of each level from 1 on: where it begins in the trail
	looked int   // how many of the trail have been looked at by propagate
	noted  int   // how many of the trail have been noted as facts
	lesson lesson
	pace   pace

	looks     int // how often clauses have been looked at
	mostLooks int // when to leave off
}

func newSolver(vars, clauses int) *solver {
	return &solver{
		store:  newStore(vars),
		order:  newOrder(vars),
		book:   book{given: clauses},
		value:  make([]int8, 2*vars),
		level:  make([]int32, vars),
		reason: make([]place, vars),
		fact:   make([]int32, vars),
		saved:  make([]bool, vars),
		lesson: newLesson(vars),
		pace:   newPace(),

		mostLooks: math.MaxInt,
	}
}

// takeAll takes the formula's clauses; false: they cannot all hold.
func (s *solver) takeAll(clauses [][]int) bool {
	s.reserve(clauses)
	isMet := make([]bool, len(s.value))
	var list []literal
	for i, c := range clauses {
		var isTrue bool
		list, isTrue = plain(list[:0], c, isMet)
		if isTrue {
			continue
		}
		number := int32(i)
		if len(list) < len(c) {
			number = s.book.add(list, []int32{number})
		}
		if !s.takeOne(list, number) {
			return false
		}
	}
	return true
}

// plain puts each literal of a clause into an empty list once, and tells whether some literal and its opposite stand in it. What is met is left as it was: false.
func plain(list []literal, c []int, isMet []bool) (all []literal, isTrue bool) {
	for _, n := range c {
		l := literalOf(n)
		isTrue = isTrue || isMet[l.opposite()]
		if !isMet[l] {
			isMet[l] = true
			list = append(list, l)
		}
	}
	for _, l := range list {
		isMet[l] = false
	}
	return list, isTrue
}

// takeOne takes a clause on level 0; false: it cannot hold.
func (s *solver) takeOne(list []literal, number int32) bool {
	switch {
	case len(list) > 1:
		s.lay(list, number, 0)
	case len(list) == 0:
		s.book.end([]int32{number})
		return false
	case s.value[list[0]] < 0:
		s.book.end([]int32{number, s.fact[list[0].variable()]})
		return false
	case s.value[list[0]] == 0:
		s.setFact(list[0], number)
	}
	return true
}

// search goes on until there is a model (true), the empty clause is in the book, or it has looked at too many clauses (false).
func (s *solver) search() bool {
	for s.looks <= s.mostLooks {
		if c := s.propagate(); c != nowhere {
			if len(s.begins) == 0 {
				s.refute(c)
				return false
			}
			s.learn(c)
			continue
		}
		if s.pace.isToRestart() {
			s.backTo(0)
		}
		if len(s.begins) == 0 {
			s.noteFacts()
		}
		if s.pace.isToDrop() {
			s.tidy()
		}
		if !s.suppose() {
			return true
		}
	}
	return false
}

// suppose begins a level with the most active open variable; false: there is none.
func (s *solver) suppose() bool {
	for len(s.heap) > 0 {
		v := s.take()
		l := literal(2 * v)
		if s.value[l] != 0 {
			continue
		}
		if !s.saved[v] {
			l = l.opposite()
		}
		s.begins = append(s.begins, len(s.trail))
		s.set(l, nowhere)
		return true
	}
	return false
}

func (s *solver) model() []bool {
	model := make([]bool, len(s.level))
	for v := range model {
		model[v] = s.value[2*v] > 0
	}
	return model
}

// refute notes the empty clause, for a clause is false on level 0.
func (s *solver) refute(c place) {
	s.noteFacts()
	sources := []int32{s.noteOf(c).number}
	for _, l := range s.literals(c) {
		sources = append(sources, s.fact[l.variable()])
	}
	s.book.end(sources)
}

// noteFacts notes of what each variable comes that has been set on level 0.
func (s *solver) noteFacts() {
	var sources []int32
	for ; s.noted < len(s.trail); s.noted++ {
		v := s.trail[s.noted].variable()
		c := s.reason[v]
		if c == nowhere {
			continue
		}
		sources = append(sources[:0], s.noteOf(c).number)
		for _, l := range s.literals(c) {
			if l.variable() != v {
				sources = append(sources, s.fact[l.variable()])
			}
		}
		s.fact[v] = s.book.addSilent(sources)
		s.reason[v] = nowhere
	}
}
