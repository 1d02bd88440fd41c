package equal

import (
	"gatewright/pattern"
	"gatewright/sat"
)

const cutWork = 4 // for each variable, to cut classes

// matcher finds out which variables are worth the same in a frame of a formula, in every model of it. Variables of a class may be the same; each is held against the first of its class.
type matcher struct {
	*joint
	session *sat.Session
	frame   int
	classes *pattern.Classes
	heads   [][2]int // variables, each with its twin or itself, that may be anything, whatever all other inputs and latches are in a model
	proofs  [][2]int // by variable: the numbers of both clauses that tell that it is the same as the first of its class
	isShown []bool   // by variable: whether there are any
	later   int      // how many cycles behind a model are looked at, too
	cuts    int      // how often classes have been cut
}

func (j *joint) newMatcher(s *sat.Session, frame int, c *pattern.Classes, heads [][2]int) *matcher {
	return &matcher{joint: j, session: s, frame: frame, classes: c, heads: heads, proofs: make([][2]int, j.size), isShown: make([]bool, j.size)}
}

// number is a literal as the formula has it.
func (m *matcher) number(literal int) int {
	n := m.frame*m.size + literal/2 + 1
	if literal%2 == 1 {
		return -n
	}
	return n
}

// lead is the literal of the first variable of its class that is to be the same as a literal.
func (m *matcher) lead(literal int) int {
	v := literal / 2
	if m.classes.IsAlone(v) {
		return literal
	}
	return m.classes.Matching(m.classes.Of(v), v) ^ literal%2
}

// isOpen asks whether it is not known yet if a variable is the same as the first of its class.
func (m *matcher) isOpen(v int) bool {
	return !m.isShown[v] && m.lead(2*v)/2 != v
}

// work tells how much has been done.
func (m *matcher) work() int {
	return m.session.Looks() + m.cuts*(1+m.later)*m.size*cutWork
}

// pass asks of each variable whether it is the same as the first of its class, with so much work for each question, until there has been so much in all.
func (m *matcher) pass(most, last int) {
	for v := 1; v < m.size; v++ {
		for m.isOpen(v) && m.work() < last && m.compare(v, most) == sat.Possible {
			m.cut()
		}
	}
}

// compare asks whether a variable can be another than the first of its class.
func (m *matcher) compare(v, most int) int {
	x, y := m.number(2*v), m.number(m.lead(2*v))
	var proofs [2]int
	for i, question := range [][2]int{{x, -y}, {-x, y}} {
		if kind := m.session.Ask(most, question[:]...); kind != sat.Refuted {
			return kind
		}
		proofs[i] = m.session.Derived()
	}
	m.proofs[v], m.isShown[v] = proofs, true
	return sat.Refuted
}

// cut cuts classes by the last model, and by patterns that are near to it; and, if these may go on, by what comes of them later.
func (m *matcher) cut() {
	values := make([]pattern.Block, m.size)
	for v := 1; v < m.first; v++ {
		values[v] = pattern.Filled(m.session.IsTrue(m.number(2 * v)))
	}
	for k := range pattern.BlockWords {
		flips := pattern.Flips(len(m.heads), uint64(m.cuts*pattern.BlockWords+k))
		for i, h := range m.heads {
			values[h[0]][k] ^= flips[i]
			values[h[1]][k] = values[h[0]][k]
		}
	}
	for cycle := range 1 + m.later {
		if cycle > 0 {
			m.goOn(values, m.cuts*m.later+cycle)
		}
		pattern.Run(values, m.graph.Ands)
		m.classes.TellApart(values)
	}
	m.cuts++
}

// areMatched asks whether both literals of each pair are to be the same.
func (m *matcher) areMatched(pairs [][2]int) bool {
	for _, p := range pairs {
		if m.lead(p[0]) != m.lead(p[1]) {
			return false
		}
	}
	return true
}

// areShown asks whether it is known of both literals of each pair that they are the same as the first of their class.
func (m *matcher) areShown(pairs [][2]int) bool {
	for _, p := range pairs {
		if m.isOpen(p[0]/2) || m.isOpen(p[1]/2) {
			return false
		}
	}
	return true
}

// steps tells how it was derived that pairs are the same.
func (m *matcher) steps(pairs [][2]int) [][]int {
	var numbers []int
	for _, p := range pairs {
		for _, literal := range p {
			if v := literal / 2; m.isShown[v] {
				numbers = append(numbers, m.proofs[v][:]...)
			}
		}
	}
	return m.session.Steps(numbers...)
}
