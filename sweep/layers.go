package sweep

import (
	"cmp"
	"slices"

	"gatewright/api"
)

// layers is the variable 0 of a graph, the heads (inputs and latches) that its gates have, and its gates, level by level: a gate is one level above the higher one of its literals. Where the first one of some gates is kept, no other one is lower.
type layers struct {
	first int      // the variable of the first gate
	heads []int    // the graph's variables of the heads, which are those from 1 on here
	ands  [][2]int // the greater literal first
	ends  []int    // of each level: the variable behind its last one
}

// variables counts 0, the heads and the gates.
func (l *layers) variables() int { return l.first + len(l.ands) }

// levelled gives the layers of a graph that is hashed and clean, and the variable there of each variable of the graph that gates have.
func levelled(g *api.Graph) (l layers, numbers []int) {
	first := 1 + g.Inputs + len(g.Latches)
	levels := make([]int, first+len(g.Ands))
	order := make([]int, len(g.Ands))
	numbers = make([]int, len(levels))
	for i, and := range g.Ands {
		levels[first+i] = 1 + max(levels[and[0]/2], levels[and[1]/2])
		order[i] = first + i
		numbers[and[0]/2], numbers[and[1]/2] = 1, 1
	}
	for v := 1; v < first; v++ {
		if numbers[v] > 0 {
			l.heads = append(l.heads, v)
			numbers[v] = len(l.heads)
		}
	}
	l.first = 1 + len(l.heads)
	slices.SortStableFunc(order, func(v, w int) int { return cmp.Compare(levels[v], levels[w]) })
	for i, v := range order {
		numbers[v] = l.first + i
		if i+1 == len(order) || levels[v] < levels[order[i+1]] {
			l.ends = append(l.ends, l.first+i+1)
		}
	}
	for _, v := range order {
		and := g.Ands[v-first]
		l.ands = append(l.ands, ordered(2*numbers[and[0]/2]+and[0]%2, 2*numbers[and[1]/2]+and[1]%2))
	}
	return l, numbers
}

// ordered gives two literals, the greater one first.
func ordered(one, other int) [2]int {
	return [2]int{max(one, other), min(one, other)}
}
