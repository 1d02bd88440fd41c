package judge

import "gatewright/api"

// written is one of the three formulas of a joint graph.
func written(g *api.Graph, pairs [][2]int, which int) api.Formula {
	w := &writer{graph: g, size: variables(g)}
	switch which {
	case base:
		w.frame(0)
		w.begin()
		return w.unlike(pairs, 0, 1)
	case step:
		w.frame(0)
		w.frame(1)
		w.goOn()
		w.alike(pairs, 0)
		return w.unlike(pairs, 1, 2)
	}
	w.frame(0)
	w.alike(pairs, 0)
	return w.unlike(outputPairs(g), 0, 1)
}

// outputPairs has the outputs of one graph, each with that of the other.
func outputPairs(g *api.Graph) [][2]int {
	half := len(g.Outputs) / 2
	pairs := make([][2]int, half)
	for i := range pairs {
		pairs[i] = [2]int{g.Outputs[i], g.Outputs[half+i]}
	}
	return pairs
}

// writer writes the clauses of a formula.
type writer struct {
	graph   *api.Graph
	size    int // the variables of a frame
	clauses [][]int
}

func (w *writer) say(clause ...int) { w.clauses = append(w.clauses, clause) }

// number is a literal in a frame as formulas have it.
func (w *writer) number(literal, frame int) int {
	n := frame*w.size + literal/2 + 1
	if literal%2 == 1 {
		return -n
	}
	return n
}

// latch is the literal of a latch.
func (w *writer) latch(i int) int { return 2 * (1 + w.graph.Inputs + i) }

// frame says what the gates are worth.
func (w *writer) frame(k int) {
	w.say(-w.number(0, k))
	for i, and := range w.graph.Ands {
		x, p, q := w.number(2*(firstGate(w.graph)+i), k), w.number(and[0], k), w.number(and[1], k)
		w.say(-x, p)
		w.say(-x, q)
		w.say(x, -p, -q)
	}
}

// begin says that the latches have their first values in frame 0.
func (w *writer) begin() {
	for i, l := range w.graph.Latches {
		x := w.number(w.latch(i), 0)
		if !l.Init {
			x = -x
		}
		w.say(x)
	}
}

// goOn says that the latches are in frame 1 what their Next is in frame 0.
func (w *writer) goOn() {
	for i, l := range w.graph.Latches {
		x, n := w.number(w.latch(i), 1), w.number(l.Next, 0)
		w.say(-x, n)
		w.say(x, -n)
	}
}

func (w *writer) alike(pairs [][2]int, frame int) {
	for _, p := range pairs {
		x, y := w.number(p[0], frame), w.number(p[1], frame)
		w.say(-x, y)
		w.say(x, -y)
	}
}

// unlike says, at last, that some pair is unlike in a frame; its own variables stand behind so many frames.
func (w *writer) unlike(pairs [][2]int, frame, frames int) api.Formula {
	before := frames * w.size
	some := make([]int, len(pairs))
	for i, p := range pairs {
		d, x, y := before+1+i, w.number(p[0], frame), w.number(p[1], frame)
		w.say(-d, x, y)
		w.say(-d, -x, -y)
		some[i] = d
	}
	w.say(some...)
	return api.Formula{Vars: before + len(pairs), Clauses: w.clauses}
}
