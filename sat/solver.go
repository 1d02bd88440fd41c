package sat

import "math"

// solver looks for a model: it supposes something of one variable after the other, each on a level of its own, and learns a clause wherever that leads to a clause without a true literal.
type solver struct {
	store
	order
	book   book
	value  []int8  // by literal: 1 true, -1 false, 0 open
	level  []int32 // by variable: on which it was set
	reason []place // by variable: the clause that set it
	fact   []int32 // by variable, if it is set on level 0: its number in the book
	saved  []bool  // by variable: whether it was true when it was set last
	trail  []literal
	begins []int // of each level from 1 on: where it begins in the trail
	looked int   // how many of the trail have been looked at by propagate
	noted  int   // how many of the trail have been noted as facts
	lesson lesson
	pace   pace
	sifter sifter

	looks     int // how often clauses have been looked at
	mostLooks int // when to leave off
}

func newSolver(vars int) *solver {
	s := &solver{order: newOrder(0), pace: newPace(), mostLooks: math.MaxInt}
	s.grow(vars)
	return s
}

// grow makes room for variables, so many in all.
func (s *solver) grow(vars int) {
	more := max(0, vars-len(s.level))
	s.watches = append(s.watches, make([][]watch, 2*more)...)
	s.value = append(s.value, make([]int8, 2*more)...)
	s.level = append(s.level, make([]int32, more)...)
	s.reason = append(s.reason, make([]place, more)...)
	s.fact = append(s.fact, make([]int32, more)...)
	s.saved = append(s.saved, make([]bool, more)...)
	s.lesson.grow(more)
	s.sifter.grow(more)
	s.order.grow(more)
}

// search goes on until there is a model, something is refuted (what was supposed, or all), or it has looked at too many clauses.
func (s *solver) search(supposed []literal) int {
	s.lesson.reserve(len(s.level) + len(supposed))
	for s.looks <= s.mostLooks && !s.book.isEnded {
		if c := s.propagate(); c != nowhere {
			if s.settle(c, len(supposed)) {
				return Refuted
			}
			continue
		}
		if s.pace.isToRestart() {
			s.backTo(len(supposed))
		}
		if len(s.begins) == 0 {
			s.noteFacts()
		}
		if s.pace.isToDrop() {
			s.tidy()
		}
		l, isThere := s.next(supposed)
		switch {
		case !isThere:
			return Possible
		case s.value[l] < 0:
			s.blame(l)
			return Refuted
		}
		s.suppose(l)
	}
	if s.book.isEnded {
		return Refuted
	}
	return LeftOpen
}

// settle draws the lesson of a clause that has become false. It tells whether something is refuted, for nothing but what is asked was supposed, on so many levels at most.
func (s *solver) settle(c place, levels int) (isRefuted bool) {
	switch {
	case len(s.begins) == 0:
		s.refute(c)
		return true
	case len(s.begins) <= levels:
		s.blameAll(c)
		return true
	}
	s.learn(c)
	return false
}

// next is what to suppose: what is asked first, then the most active open variable.
func (s *solver) next(supposed []literal) (l literal, isThere bool) {
	if len(s.begins) < len(supposed) {
		return supposed[len(s.begins)], true
	}
	for len(s.heap) > 0 {
		v := s.take()
		if l := literal(2 * v); s.value[l] == 0 {
			if !s.saved[v] {
				l = l.opposite()
			}
			return l, true
		}
	}
	return 0, false
}

// suppose begins a level with a literal that is not false.
func (s *solver) suppose(l literal) {
	s.begins = append(s.begins, len(s.trail))
	if s.value[l] == 0 {
		s.set(l, nowhere)
	}
}

func (s *solver) model() []bool {
	model := make([]bool, len(s.level))
	for v := range model {
		model[v] = s.value[2*v] > 0
	}
	return model
}

// refute notes the empty clause, for a clause is false on level 0.
func (s *solver) refute(c place) {
	s.noteFacts()
	sources := []int32{s.noteOf(c).number}
	for _, l := range s.literals(c) {
		sources = append(sources, s.fact[l.variable()])
	}
	s.book.end(sources)
}

// noteFacts notes of what each variable comes that has been set on level 0.
func (s *solver) noteFacts() {
	var sources []int32
	for ; s.noted < len(s.trail); s.noted++ {
		v := s.trail[s.noted].variable()
		c := s.reason[v]
		if c == nowhere {
			continue
		}
		sources = append(sources[:0], s.noteOf(c).number)
		for _, l := range s.literals(c) {
			if l.variable() != v {
				sources = append(sources, s.fact[l.variable()])
			}
		}
		s.fact[v] = s.book.addSilent(sources)
		s.reason[v] = nowhere
	}
}
