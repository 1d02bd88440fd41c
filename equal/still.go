package equal

import (
	"slices"

	"gatewright/api"
	"gatewright/judge"
	"gatewright/pattern"
	"gatewright/sat"
)

const (
	someBlocks = 32      // of patterns are run where there are too many
	mostRun    = 1 << 22 // variables that may be run at a block, for all patterns to be run
	firstMost  = 1 << 13 // work for a question, at first
	growth     = 4       // how many times as much next
)

// still asks whether the latches of both graphs, one by one, have the same first values, and whether at all inputs and latches their Next and the outputs are worth the same.
type still struct {
	*matcher
	latches, next [][2]int
	most          int
	isOver        bool // it is known that they are not
}

func (j *joint) newStill() *still {
	latches, isPaired := j.latchPairs()
	if !isPaired || 2*j.size+len(latches) > mostVars {
		return &still{isOver: true}
	}
	f := judge.Formula(j.a, j.b, latches, 2)
	session := sat.NewSession(true)
	session.Add(f.Vars, f.Clauses[:len(f.Clauses)-1]...)
	next := j.nextOf(latches)
	isNeeded := j.needed(slices.Concat(next, j.outputs), itself)
	heads := j.inputs(isNeeded)
	for _, p := range latches {
		heads = append(heads, [2]int{p[0] / 2, p[1] / 2})
	}
	m := j.newMatcher(session, 0, j.guessed(heads, isNeeded), heads)
	return &still{m, latches, next, firstMost, false}
}

// goOn tells a certificate, as far as some work goes.
func (s *still) goOn(work int) (c api.Cert, isSame bool) {
	if s.isOver {
		return api.Cert{}, false
	}
	last := s.work() + work
	for s.areMatched(s.next) && s.areMatched(s.outputs) {
		if s.areShown(s.next) && s.areShown(s.outputs) {
			return s.certified(s.latches, nil, s.steps(s.next), s.steps(s.outputs))
		}
		if s.work() >= last {
			return api.Cert{}, false
		}
		s.pass(s.most, last)
		s.most *= growth
	}
	s.isOver = true
	return api.Cert{}, false
}

// latchPairs pairs the latches that are needed, one by one; unless one of them has no twin, or a twin with another first value.
func (j *joint) latchPairs() (pairs [][2]int, isPaired bool) {
	isNeeded := j.isNeeded
	for {
		var more [][2]int
		for i := range max(len(j.a.Latches), len(j.b.Latches)) {
			isOfA := i < len(j.a.Latches) && isNeeded[j.latch(i)]
			isOfB := i < len(j.b.Latches) && isNeeded[j.latch(len(j.a.Latches)+i)]
			if !isOfA && !isOfB {
				continue
			}
			if i >= len(j.a.Latches) || i >= len(j.b.Latches) || j.a.Latches[i].Init != j.b.Latches[i].Init {
				return nil, false
			}
			more = append(more, [2]int{2 * j.latch(i), 2 * j.latch(len(j.a.Latches)+i)})
		}
		if len(more) == len(pairs) {
			return pairs, true
		}
		pairs = more
		isNeeded = j.needed(slices.Concat(j.nextOf(pairs), j.outputs), itself)
	}
}

// nextOf gives the Next of latches that are pairs.
func (j *joint) nextOf(latches [][2]int) [][2]int {
	var next [][2]int
	for _, p := range latches {
		next = append(next, [2]int{j.next(p[0] / 2), j.next(p[1] / 2)})
	}
	return next
}

// inputs are those that are needed, each with itself.
func (j *joint) inputs(isNeeded []bool) [][2]int {
	var list [][2]int
	for v := 1; v <= j.graph.Inputs; v++ {
		if isNeeded[v] {
			list = append(list, [2]int{v, v})
		}
	}
	return list
}

// guessed runs patterns of heads: classes of the variables that are needed.
func (j *joint) guessed(heads [][2]int, isNeeded []bool) *pattern.Classes {
	bits := max(0, len(heads)-pattern.BlockBits)
	blocks, head := someBlocks, pattern.Some
	if bits < 30 && j.size<<bits <= mostRun {
		blocks, head = 1<<bits, pattern.Counting()
	}
	values := make([]pattern.Block, j.size)
	run := func(number int) {
		for i, h := range heads {
			values[h[0]] = head(1+i, number)
			values[h[1]] = values[h[0]]
		}
		pattern.Run(values, j.graph.Ands)
	}
	run(0)
	c := classesOf(values, isNeeded)
	for number := range blocks {
		run(number)
		c.TellApart(values)
	}
	return c
}
