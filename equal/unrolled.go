package equal

import (
	"gatewright/pattern"
	"gatewright/sat"
)

const (
	mergeMost   = 1 << 12 // work for the question whether two gates are the same
	mostMatches = 4       // gates with which one is compared
	mostColumns = 256     // words of patterns near to models
)

// unrolled is a graph of inputs and gates that grows. Of what is found to be the same one is taken.
type unrolled struct {
	session *sat.Session
	inputs  []int                   // their variables
	ands    [][2]int                // by variable: the literals of a gate
	values  []pattern.Block         // by variable: at any patterns
	columns [][]uint64              // each by variable: at patterns near to a model
	same    []int                   // by variable: a literal that is worth the same
	gates   map[[2]int]int          // by their literals: literals of gates
	alike   map[pattern.Block][]int // by what they are worth, or the opposite of it: variables
	matches int                     // with how many gates one is compared
	last    int                     // how much work may have been done for that
}

func newUnrolled() *unrolled {
	u := &unrolled{session: sat.NewSession(false), gates: make(map[[2]int]int), alike: make(map[pattern.Block][]int), matches: mostMatches}
	u.session.Add(1, []int{-1})
	u.file(u.add([2]int{}, pattern.Block{}, nil))
	return u
}

// add takes in a variable.
func (u *unrolled) add(and [2]int, value pattern.Block, column func(k int) uint64) int {
	v := len(u.same)
	u.ands = append(u.ands, and)
	u.values = append(u.values, value)
	u.same = append(u.same, 2*v)
	for k := range u.columns {
		u.columns[k] = append(u.columns[k], column(k))
	}
	return v
}

// input gives the literal of a new input.
func (u *unrolled) input() int {
	number := len(u.inputs)
	v := u.add([2]int{}, pattern.Some(1, number), func(k int) uint64 {
		return pattern.Mixed(uint64(number)<<32 | uint64(k))
	})
	u.inputs = append(u.inputs, v)
	u.session.Add(v + 1)
	u.file(v)
	return 2 * v
}

// number is a literal as the session has it.
func number(literal int) int {
	n := literal/2 + 1
	if literal%2 == 1 {
		return -n
	}
	return n
}

// renewed is a literal of a variable that is taken, as far as is known.
func (u *unrolled) renewed(literal int) int {
	for u.same[literal/2]/2 != literal/2 {
		literal = u.same[literal/2] ^ literal%2
	}
	return literal
}

// and gives a literal that is true if both are.
func (u *unrolled) and(one, other int) int {
	one, other = u.renewed(one), u.renewed(other)
	key := [2]int{max(one, other), min(one, other)}
	switch {
	case key[1] == 0 || key[0] == key[1]^1:
		return 0
	case key[1] == 1 || key[0] == key[1]:
		return key[0]
	}
	literal, isThere := u.gates[key]
	if !isThere {
		literal = u.gate(key)
		u.gates[key] = literal
	}
	return u.renewed(literal)
}

func (u *unrolled) or(one, other int) int { return u.and(one^1, other^1) ^ 1 }

func (u *unrolled) xor(one, other int) int {
	return u.or(u.and(one, other^1), u.and(one^1, other))
}

// gate lays a new gate.
func (u *unrolled) gate(key [2]int) int {
	one, other := worth(u.values, key[0]), worth(u.values, key[1])
	for k := range one {
		one[k] &= other[k]
	}
	v := u.add(key, one, func(k int) uint64 { return u.word(key[0], k) & u.word(key[1], k) })
	x, p, q := number(2*v), number(key[0]), number(key[1])
	u.session.Add(v+1, []int{-x, p}, []int{-x, q}, []int{x, -p, -q})
	u.merge(v)
	return u.same[v]
}

// word is what a literal is worth in a column.
func (u *unrolled) word(literal, k int) uint64 {
	return u.columns[k][literal/2] ^ -uint64(literal%2)
}

// face is the literal of a variable that is false at the first pattern, and what it is worth at all of them.
func (u *unrolled) face(v int) (literal int, value pattern.Block) {
	literal = 2*v + int(u.values[v][0]&1)
	return literal, worth(u.values, literal)
}

// file notes a variable for those that come later.
func (u *unrolled) file(v int) {
	_, value := u.face(v)
	u.alike[value] = append(u.alike[value], v)
}

// merge looks for a variable that is the same as a new one.
func (u *unrolled) merge(v int) {
	literal, value := u.face(v)
	asked := 0
	for _, w := range u.alike[value] {
		other, _ := u.face(w)
		if asked == u.matches || u.session.Looks() >= u.last {
			break
		}
		if !u.isMatch(literal, other) {
			continue
		}
		asked++
		if u.isSame(literal, other) {
			u.same[v] = other ^ literal%2
			return
		}
	}
	u.file(v)
}

// isMatch asks whether no column tells two literals apart.
func (u *unrolled) isMatch(one, other int) bool {
	for k := range u.columns {
		if u.word(one, k) != u.word(other, k) {
			return false
		}
	}
	return true
}

// isSame asks the solver whether two literals are the same; what it does not tell soon does not count.
func (u *unrolled) isSame(one, other int) bool {
	x, y := number(one), number(other)
	for _, question := range [][2]int{{x, -y}, {-x, y}} {
		switch u.session.Ask(mergeMost, question[:]...) {
		case sat.Possible:
			u.note()
			return false
		case sat.LeftOpen:
			return false
		}
	}
	return true
}

// note makes a column of patterns near to the last model.
func (u *unrolled) note() {
	if len(u.columns) == mostColumns {
		return
	}
	flips := pattern.Flips(len(u.inputs), uint64(len(u.columns)))
	column := make([]uint64, len(u.same), 2*len(u.same))
	for i, v := range u.inputs {
		column[v] = flips[i]
		if u.session.IsTrue(v + 1) {
			column[v] = ^flips[i]
		}
	}
	u.columns = append(u.columns, column)
	k := len(u.columns) - 1
	for v, and := range u.ands {
		if and != [2]int{} {
			column[v] = u.word(and[0], k) & u.word(and[1], k)
		}
	}
}
