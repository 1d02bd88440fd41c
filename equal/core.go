package equal

import (
	"cmp"
	"slices"

	"gatewright/api"
)

// core is what some outputs of two graphs hang on: inputs, latches and gates. What is known to be the same for ever is there but once.
type core struct {
	inputs  []int // which of the graphs' inputs they are
	all     int   // how many inputs the graphs have
	latches []api.Latch
	ands    [][2]int
	outputs [][2]int // those of one graph, each with that of the other
}

// coreOf takes others in the place of literals.
func (j *joint) coreOf(outputs [][2]int, renewed func(literal int) int) *core {
	c := &core{all: j.graph.Inputs}
	numbers := make([]int, j.size)
	next := 1
	for v, isNeeded := range j.needed(outputs, renewed) {
		if v > 0 && isNeeded {
			numbers[v] = next
			next++
		}
	}
	moved := func(literal int) int {
		literal = renewed(literal)
		return 2*numbers[literal/2] + literal%2
	}
	for v, number := range numbers {
		switch {
		case number == 0:
		case v <= j.graph.Inputs:
			c.inputs = append(c.inputs, v-1)
		case v < j.first:
			l := j.graph.Latches[v-1-j.graph.Inputs]
			c.latches = append(c.latches, api.Latch{Next: moved(l.Next), Init: l.Init})
		default:
			and := j.graph.Ands[v-j.first]
			c.ands = append(c.ands, [2]int{moved(and[0]), moved(and[1])})
		}
	}
	for _, p := range outputs {
		c.outputs = append(c.outputs, [2]int{moved(p[0]), moved(p[1])})
	}
	return c
}

// firstGate is the variable of the first gate.
func (c *core) firstGate() int { return 1 + len(c.inputs) + len(c.latches) }

func (c *core) variables() int { return c.firstGate() + len(c.ands) }

// row is what all inputs of the graphs are, of which some are told.
func (c *core) row(isTrue func(i int) bool) []bool {
	row := make([]bool, c.all)
	for i, input := range c.inputs {
		row[input] = isTrue(i)
	}
	return row
}

// mostGrouped is how many outputs may be put into groups; of more there is one group.
const mostGrouped = 300

// grouped puts outputs together, told by their numbers: the first one of a group hangs on all on which the others do.
func (j *joint) grouped(outputs [][2]int, renewed func(literal int) int) [][]int {
	order := make([]int, len(outputs))
	for i := range order {
		order[i] = i
	}
	if len(outputs) > mostGrouped {
		return [][]int{order}
	}
	isNeeded := make([][]bool, len(outputs))
	counts := make([]int, len(outputs))
	for i := range outputs {
		isNeeded[i] = j.needed(outputs[i:i+1], renewed)
		for _, is := range isNeeded[i] {
			if is {
				counts[i]++
			}
		}
	}
	slices.SortStableFunc(order, func(i, k int) int { return cmp.Compare(counts[k], counts[i]) })
	var groups [][]int
sorting:
	for _, i := range order {
		for g := range groups {
			if isWithin(isNeeded[i], isNeeded[groups[g][0]]) {
				groups[g] = append(groups[g], i)
				continue sorting
			}
		}
		groups = append(groups, []int{i})
	}
	return groups
}

func isWithin(part, whole []bool) bool {
	for i, is := range part {
		if is && !whole[i] {
			return false
		}
	}
	return true
}
