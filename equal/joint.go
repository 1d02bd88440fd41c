package equal

import (
	"gatewright/api"
	"gatewright/judge"
	"gatewright/pattern"
)

const wholeSize = 30000 // variables of all cycles, and outputs

// joint is two graphs that are alike, as one graph.
type joint struct {
	a, b     api.Graph
	graph    api.Graph
	first    int      // the variable of the first gate
	size     int      // how many variables there are
	outputs  [][2]int // those of a, each with that of b
	isNeeded []bool   // by variable: whether an output hangs on it, at once or later
}

func join(a, b api.Graph) *joint {
	g := judge.Join(a, b)
	j := &joint{a: a, b: b, graph: g, first: 1 + g.Inputs + len(g.Latches)}
	j.size = j.first + len(g.Ands)
	half := len(a.Outputs)
	for i := range half {
		j.outputs = append(j.outputs, [2]int{g.Outputs[i], g.Outputs[half+i]})
	}
	j.isNeeded = j.needed(j.outputs, itself)
	return j
}

// isWhole asks whether the joint graph is not too large for all to be told that can be.
func (j *joint) isWhole() bool {
	return mostDepth*j.size+len(j.graph.Outputs) <= wholeSize
}

// latch is the variable of a latch.
func (j *joint) latch(i int) int { return 1 + j.graph.Inputs + i }

// needed tells on which variables some pairs of literals hang, where others stand in the place of literals.
func (j *joint) needed(pairs [][2]int, renewed func(literal int) int) []bool {
	isNeeded := make([]bool, j.size)
	isNeeded[0] = true
	var waiting []int
	need := func(literal int) {
		if v := renewed(literal) / 2; !isNeeded[v] {
			isNeeded[v] = true
			waiting = append(waiting, v)
		}
	}
	for _, p := range pairs {
		need(p[0])
		need(p[1])
	}
	for len(waiting) > 0 {
		v := waiting[len(waiting)-1]
		waiting = waiting[:len(waiting)-1]
		switch {
		case v >= j.first:
			need(j.graph.Ands[v-j.first][0])
			need(j.graph.Ands[v-j.first][1])
		case v > j.graph.Inputs:
			need(j.next(v))
		}
	}
	return isNeeded
}

// next is the Next of the variable of a latch.
func (j *joint) next(v int) int { return j.graph.Latches[v-1-j.graph.Inputs].Next }

func itself(literal int) int { return literal }

// goOn sets the latches to what their Next is worth, and the inputs to any worths.
func (j *joint) goOn(values []pattern.Block, cycle int) {
	next := make([]pattern.Block, len(j.graph.Latches))
	for i, l := range j.graph.Latches {
		next[i] = worth(values, l.Next)
	}
	copy(values[1+j.graph.Inputs:], next)
	for v := 1; v <= j.graph.Inputs; v++ {
		values[v] = pattern.Some(v, cycle)
	}
}
