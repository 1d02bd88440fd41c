package equal

import (
	"math"

	"gatewright/api"
	"gatewright/judge"
	"gatewright/sat"
)

// certified makes a certificate of pairs, and of what is known to follow from each of the three formulas.
func (j *joint) certified(pairs [][2]int, steps ...[][]int) (c api.Cert, isSame bool) {
	c.Pairs = pairs
	for which, proof := range []*[][]int{&c.Base, &c.Step, &c.Outlet} {
		*proof, isSame = finished(judge.Formula(j.a, j.b, pairs, which), steps[which])
		if !isSame {
			return api.Cert{}, false
		}
	}
	return c, true
}

// finished makes a refutation of one of the three formulas, of which some steps are known.
func finished(f api.Formula, steps [][]int) (proof [][]int, isRefuted bool) {
	s := sat.NewSession(true)
	s.Add(f.Vars, f.Clauses...)
	s.Add(f.Vars, steps...)
	// Pair by pair, what the last clause says is found to be false at once, if the steps tell that pairs are alike. Two clauses of each pair stand ahead of it.
	last := len(f.Clauses) - 1
	unlike := f.Clauses[last]
	for i, d := range unlike {
		x := f.Clauses[last-2*len(unlike)+2*i][1]
		s.Ask(math.MaxInt, d, x)
		s.Ask(math.MaxInt, d)
	}
	if s.Ask(math.MaxInt) != sat.Refuted {
		return nil, false
	}
	return append(steps, s.Steps(s.Derived())...), true
}
