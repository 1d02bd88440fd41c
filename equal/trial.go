package equal

import (
	"math/bits"

	"gatewright/pattern"
)

const (
	trialCycles = 128     // are run, with many traces at one time
	trialSize   = 1 << 22 // variables of all cycles
	leastCycles = 16
)

// trial is what some runs from the first values on show.
type trial struct {
	classes *pattern.Classes // of the variables that outputs hang on
	trace   [][]bool         // at its last cycle, and no earlier one, the graphs part; none, if they never do
}

// tryOut runs both graphs.
func (j *joint) tryOut() trial {
	values := make([]pattern.Block, j.size)
	for i, l := range j.graph.Latches {
		values[j.latch(i)] = pattern.Filled(l.Init)
	}
	for v := 1; v <= j.graph.Inputs; v++ {
		values[v] = pattern.Some(v, 0)
	}
	var t trial
	for cycle := range min(trialCycles, max(leastCycles, trialSize/j.size)) {
		if cycle > 0 {
			j.goOn(values, cycle)
		}
		pattern.Run(values, j.graph.Ands)
		if cycle == 0 {
			t.classes = classesOf(values, j.isNeeded)
		}
		t.classes.TellApart(values)
		if at, isThere := j.parting(values); isThere && t.trace == nil {
			t.trace = j.rows(cycle, at)
		}
	}
	return t
}

// classesOf has all variables that are needed in one class.
func classesOf(values []pattern.Block, isNeeded []bool) *pattern.Classes {
	c := pattern.NewClasses(values)
	for v := range isNeeded {
		if !isNeeded[v] {
			c.Drop(v)
		}
	}
	return c
}

// worth tells what a literal is worth.
func worth(values []pattern.Block, literal int) pattern.Block {
	b := values[literal/2]
	for k := range b {
		b[k] ^= -uint64(literal % 2)
	}
	return b
}

// parting finds the first pattern at which an output of one graph is worth something else than that of the other.
func (j *joint) parting(values []pattern.Block) (at int, isThere bool) {
	var all pattern.Block
	for _, p := range j.outputs {
		one, other := worth(values, p[0]), worth(values, p[1])
		for k := range all {
			all[k] |= one[k] ^ other[k]
		}
	}
	for k, x := range all {
		if x != 0 {
			return k<<pattern.WordBits + bits.TrailingZeros64(x), true
		}
	}
	return 0, false
}

// rows are the inputs of a run, at one pattern, up to a cycle.
func (j *joint) rows(last, at int) [][]bool {
	trace := make([][]bool, last+1)
	for cycle := range trace {
		trace[cycle] = make([]bool, j.graph.Inputs)
		for i := range trace[cycle] {
			b := pattern.Some(1+i, cycle)
			trace[cycle][i] = b[at>>pattern.WordBits]>>(at%(1<<pattern.WordBits))&1 == 1
		}
	}
	return trace
}
