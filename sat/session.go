package sat

import "math"

// What may be said to a question.
const (
	LeftOpen = iota // it took too long
	Possible        // there is a model
	Refuted         // there is none
)

const takenWork = 8 // for a clause that is taken

// Session is a formula that may grow, and of which questions are asked one after the other: what was learnt for one is known for the next.
type Session struct {
	solver  *solver
	model   []bool
	derived int32 // the number in the book of what was derived for the last question
}

// NewSession begins with no clause. Unless what is derived is to be told, it is not kept.
func NewSession(isTold bool) *Session {
	s := &Session{solver: newSolver(0)}
	s.solver.book.isClosed = !isTold
	return s
}

// Add takes clauses of the first so many variables.
func (s *Session) Add(vars int, clauses ...[]int) {
	s.solver.grow(vars)
	s.solver.takeAll(clauses)
	s.solver.looks += takenWork * len(clauses)
}

// Ask asks whether the clauses can all hold if some literals do, too. If they cannot, a clause is derived: some of the opposites of these literals. It is left open if it takes more work than is given; then it may be asked again.
func (s *Session) Ask(most int, literals ...int) int {
	supposed := make([]literal, len(literals))
	for i, n := range literals {
		supposed[i] = literalOf(n)
	}
	solver := s.solver
	solver.mostLooks = solver.looks + min(most, math.MaxInt-solver.looks)
	kind := solver.search(supposed)
	if kind == Possible {
		s.model = solver.model()
		solver.looks += len(s.model)
	}
	solver.backTo(0)
	s.derived = solver.book.last()
	return kind
}

// IsTrue tells what a literal is in the last model.
func (s *Session) IsTrue(n int) bool {
	if n < 0 {
		return !s.model[-n-1]
	}
	return s.model[n-1]
}

// Looks tells how much work has been done: how often clauses have been looked at, and what else takes its time.
func (s *Session) Looks() int { return s.solver.looks }

// Derived is the number of the clause that was derived for the last question.
func (s *Session) Derived() int { return int(s.derived) }

// Steps tells the clauses of which those with some numbers were derived, and these, in order: each follows by unit propagation.
func (s *Session) Steps(numbers ...int) [][]int {
	list := make([]int32, len(numbers))
	for i, n := range numbers {
		list[i] = int32(n)
	}
	return s.solver.book.needed(list...)
}

// blame derives a clause of the opposites of what was supposed, for one of these literals has become false.
func (s *solver) blame(l literal) {
	s.lesson.begin()
	s.lesson.list[0] = l.opposite()
	s.trace(l)
	s.deriveSupposed()
}

// blameAll does so, for a clause has become false and nothing but these literals was supposed.
func (s *solver) blameAll(c place) {
	s.lesson.begin()
	s.lesson.list = s.lesson.list[:0]
	s.traceAll(c)
	s.deriveSupposed()
}

// deriveSupposed goes back from what is marked to what was supposed.
func (s *solver) deriveSupposed() {
	n := &s.lesson
	from := len(s.trail)
	if len(s.begins) > 0 {
		from = s.begins[0]
	}
	for i := len(s.trail) - 1; i >= from; i-- {
		v := s.trail[i].variable()
		switch c := s.reason[v]; {
		case n.mark[v] == unmet:
		case c == nowhere:
			n.list = append(n.list, s.trail[i].opposite())
		default:
			s.traceAll(c)
		}
	}
	number := s.book.add(n.list, n.sources)
	s.backTo(0)
	s.teach(number)
}

// traceAll marks the variables of a clause, which is a source.
func (s *solver) traceAll(c place) {
	s.lesson.sources = append(s.lesson.sources, s.noteOf(c).number)
	for _, l := range s.literals(c) {
		s.trace(l)
	}
}

// trace marks a variable that has led to where the solver is.
func (s *solver) trace(l literal) {
	n, v := &s.lesson, l.variable()
	if n.mark[v] != unmet {
		return
	}
	n.setMark(v, met)
	if s.level[v] == 0 {
		n.sources = append(n.sources, s.fact[v])
	}
}

// teach lets the solver know the clause of what was supposed. (If that was something and its opposite, there is nothing to know.)
func (s *solver) teach(number int32) {
	list := s.lesson.list
	switch {
	case len(list) == 1:
		s.keep(list, number)
	case len(list) > 2 || list[0] != list[1].opposite():
		s.lay(list, number, bestGlue)
	}
}
