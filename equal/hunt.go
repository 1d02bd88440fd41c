package equal

import (
	"slices"

	"gatewright/pattern"
)

// hunt looks for a shortest trace at which outputs part. Some walk from state to state, one group of outputs each; one lays frame behind frame for all of them. Some find soon what others do not.
type hunt struct {
	trace  [][]bool // the shortest one that is known
	depth  int      // how many cycles are still to be looked at
	groups [][]int  // outputs
	states []*states
	frames *frames
	agreed []int           // by output: in how many cycles it is known not to part
	room   []pattern.Block // for those who walk
}

// newHunt looks at the outputs that are not the same literal.
func (j *joint) newHunt(depth int, renewed func(literal int) int) *hunt {
	outputs := j.unlike(renewed)
	whole := j.coreOf(outputs, renewed)
	h := &hunt{
		depth:  depth,
		groups: j.grouped(outputs, renewed),
		frames: newFrames(whole, j.isWhole()),
		agreed: make([]int, len(outputs)),
		room:   make([]pattern.Block, whole.variables()),
	}
	for _, g := range h.groups {
		var some [][2]int
		for _, i := range g {
			some = append(some, outputs[i])
		}
		h.states = append(h.states, newStates(j.coreOf(some, renewed), mostStates/len(h.groups)))
	}
	return h
}

// unlike gives the pairs of outputs that are not the same literal, each but once.
func (j *joint) unlike(renewed func(literal int) int) [][2]int {
	var outputs [][2]int
	for _, p := range j.outputs {
		one, other := renewed(p[0]), renewed(p[1])
		if one != other {
			low := min(one, other)
			outputs = append(outputs, [2]int{low ^ low%2, max(one, other) ^ low%2})
		}
	}
	slices.SortFunc(outputs, func(p, q [2]int) int { return slices.Compare(p[:], q[:]) })
	return slices.Compact(outputs)
}

// isDone asks whether no shorter trace can be there.
func (h *hunt) isDone() bool {
	for _, cycles := range h.agreed {
		if cycles < h.depth {
			return false
		}
	}
	return true
}

// goOn does some work.
func (h *hunt) goOn(work int) {
	for i, s := range h.states {
		if !h.isDone() {
			h.take(s.seek(work/len(h.states), h.depth, h.room))
		}
		for _, o := range h.groups[i] {
			h.agreed[o] = max(h.agreed[o], s.agreed())
		}
	}
	if !h.isDone() {
		h.take(h.frames.seek(work, h.depth, h.agreed))
	}
}

// take notes a trace, if there is one and it is short enough: from now on shorter ones alone count.
func (h *hunt) take(trace [][]bool) {
	if trace != nil && len(trace) <= h.depth {
		h.trace = trace
		h.depth = len(trace) - 1
	}
}
