package sweep

import (
	"slices"

	"gatewright/api"
)

// window is the gates nearest to two literals, and what these hang on beside them: heads, and gates of which nothing is supposed.
type window struct {
	gates   []int // descending
	edge    []int // ascending
	isWhole bool  // no gate is at its edge
}

// windowOf takes so many gates at most, the highest ones.
func (l *layers) windowOf(one, other, most int) *window {
	w := &window{}
	w.reach(one / 2)
	w.reach(other / 2)
	for len(w.edge) > 0 {
		last := len(w.edge) - 1
		top := w.edge[last]
		w.isWhole = top < l.first
		if w.isWhole || len(w.gates) >= most {
			break
		}
		w.edge = w.edge[:last]
		w.gates = append(w.gates, top)
		and := l.ands[top-l.first]
		w.reach(and[0] / 2)
		w.reach(and[1] / 2)
	}
	return w
}

func (w *window) reach(v int) {
	if at, isThere := slices.BinarySearch(w.edge, v); !isThere {
		w.edge = slices.Insert(w.edge, at, v)
	}
}

// formula says that two literals are not worth the same. Its first variables are those at the edge of the window.
func (l *layers) formula(w *window, one, other int) api.Formula {
	numbers := make(map[int]int)
	for i, v := range w.edge {
		numbers[v] = i + 1
	}
	for i, v := range w.gates {
		numbers[v] = len(w.edge) + len(w.gates) - i
	}
	number := func(literal int) int {
		if literal%2 == 1 {
			return -numbers[literal/2]
		}
		return numbers[literal/2]
	}
	x, y := number(one), number(other)
	clauses := [][]int{{x, y}, {-x, -y}}
	if no := numbers[0]; no > 0 {
		clauses = append(clauses, []int{-no})
	}
	clauses = slices.Grow(clauses, 3*len(w.gates))
	for _, v := range w.gates {
		and := l.ands[v-l.first]
		x, p, q := numbers[v], number(and[0]), number(and[1])
		all := []int{-x, p, -x, q, x, -p, -q}
		clauses = append(clauses, all[:2], all[2:4], all[4:])
	}
	return api.Formula{Vars: len(numbers), Clauses: clauses}
}
