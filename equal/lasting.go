package equal

import (
	"math"

	"gatewright/api"
	"gatewright/judge"
	"gatewright/pattern"
	"gatewright/sat"
)

const (
	lastingMost   = 1 << 16 // work for a question, at first
	lastingGrowth = 16      // how many times as much next
	laterCycles   = 32      // at most that are run behind a model: what stays has to stay there, too
	laterSize     = 1 << 17 // variables of all these cycles
)

// lasting looks for pairs of variables that are the same in the first cycle, and in each cycle if they are in the one ahead of it: so they are for ever.
type lasting struct {
	*joint
	tried   *pattern.Classes // what no run has told apart
	heads   [][2]int
	classes *pattern.Classes // of which it is asked whether they stay
	step    *matcher         // that has shown of these that they do
	found   int              // how many pairs these are
	most    int              // work for a question
	isOver  bool             // nothing more is to be found
}

func (j *joint) newLasting(tried *pattern.Classes) *lasting {
	return &lasting{joint: j, tried: tried, heads: j.inputs(j.isNeeded), most: lastingMost}
}

// goOn looks for all such pairs, as far as some work goes. It tells whether it has found more than before.
func (l *lasting) goOn(work int) (isMore bool) {
	l.classes = l.tried.Clone()
	if l.isOver || 2*l.size+len(l.pairs()) > mostVars {
		l.isOver = true
		return false
	}
	base, drops := l.hold(0, 0, l.most, work)
	work -= base.work()
	for work > 0 {
		step, dropped := l.hold(1, 1, l.most, work)
		work -= step.work()
		drops += dropped
		if dropped == 0 && step.cuts == 0 {
			l.isOver = drops == 0
			l.most *= lastingGrowth
			return l.keep(step)
		}
	}
	return false
}

// keep takes what has been shown, if it is more than before.
func (l *lasting) keep(step *matcher) (isMore bool) {
	count := len(l.pairs())
	if count > l.found {
		l.found, l.step = count, step
		return true
	}
	return false
}

// lead tells for each literal the first one that is the same for ever.
func (l *lasting) lead() func(literal int) int { return l.step.lead }

// hold asks of all pairs whether they are the same in a frame of a formula. Pairs of which that is not found are dropped.
func (l *lasting) hold(which, frame, most, work int) (m *matcher, dropped int) {
	f := judge.Formula(l.a, l.b, l.pairs(), which)
	s := sat.NewSession(true)
	s.Add(f.Vars, f.Clauses[:len(f.Clauses)-1]...)
	m = l.newMatcher(s, frame, l.classes, l.heads)
	m.later = min(laterCycles, laterSize/l.size)
	m.pass(most, work)
	for v := range l.size {
		if m.isOpen(v) {
			l.classes.Drop(v)
			dropped++
		}
	}
	return m, dropped
}

// pairs has each variable that is in a class with the first of it.
func (l *lasting) pairs() [][2]int {
	var pairs [][2]int
	for v := range l.size {
		if first := l.classes.Of(v); !l.classes.IsAlone(v) && first != v {
			pairs = append(pairs, [2]int{l.classes.Matching(first, v), 2 * v})
		}
	}
	return pairs
}

// cert makes a certificate, if the outputs are among what is the same for ever.
func (l *lasting) cert() (c api.Cert, isSame bool) {
	if !l.step.areMatched(l.outputs) {
		return api.Cert{}, false
	}
	pairs := l.pairs()
	base, dropped := l.hold(0, 0, math.MaxInt, math.MaxInt)
	if dropped > 0 || base.cuts > 0 {
		return api.Cert{}, false
	}
	return l.certified(pairs, base.steps(pairs), l.step.steps(pairs), nil)
}
