package equal

import (
	"math/rand"
	"slices"
	"testing"

	"gatewright/aig"
	"gatewright/api"
	"gatewright/sweep"
)

// grown makes a random graph that is valid. Literals are of any variable ahead, or (near above 0) most often of one of the last ones.
func grown(r *rand.Rand, inputs, latches, ands, outputs, near int) api.Graph {
	g := api.Graph{Inputs: inputs}
	literal := func(variables int) int {
		if near == 0 || r.Intn(6) == 0 {
			return r.Intn(2 * variables)
		}
		return 2*max(0, variables-1-r.Intn(near)) + r.Intn(2)
	}
	for i := range ands {
		v := 1 + inputs + latches + i
		g.Ands = append(g.Ands, [2]int{literal(v), literal(v)})
	}
	all := 1 + inputs + latches + ands
	for range latches {
		g.Latches = append(g.Latches, api.Latch{Next: literal(all), Init: r.Intn(2) == 0})
	}
	for range outputs {
		g.Outputs = append(g.Outputs, literal(all))
	}
	return g
}

func copyOf(g api.Graph) api.Graph {
	g.Latches, g.Ands, g.Outputs = slices.Clone(g.Latches), slices.Clone(g.Ands), slices.Clone(g.Outputs)
	return g
}

// spoilt changes something in a graph.
func spoilt(r *rand.Rand, g api.Graph) api.Graph {
	g = copyOf(g)
	first := 1 + g.Inputs + len(g.Latches)
	switch r.Intn(4) {
	case 0:
		if len(g.Latches) > 0 {
			i := r.Intn(len(g.Latches))
			g.Latches[i].Init = !g.Latches[i].Init
		}
	case 1:
		if len(g.Latches) > 0 {
			g.Latches[r.Intn(len(g.Latches))].Next = r.Intn(2 * (first + len(g.Ands)))
		}
	case 2:
		if len(g.Outputs) > 0 {
			g.Outputs[r.Intn(len(g.Outputs))] = r.Intn(2 * (first + len(g.Ands)))
		}
	default:
		if len(g.Ands) > 0 {
			i := r.Intn(len(g.Ands))
			g.Ands[i][r.Intn(2)] = r.Intn(2 * (first + i))
		}
	}
	return g
}

// retold says the same in another way.
func retold(r *rand.Rand, g api.Graph) api.Graph {
	switch r.Intn(5) {
	case 0:
		return aig.Hash(g)
	case 1:
		return aig.Clean(g)
	case 2:
		return sweep.Graph(g)
	case 3:
		return moved(r, g)
	}
	return copyOf(g)
}

// moved has the latches in another order, and some of them inverted.
func moved(r *rand.Rand, g api.Graph) api.Graph {
	h := copyOf(g)
	literals := make([]int, 1+g.Inputs+len(g.Latches)+len(g.Ands))
	for v := range literals {
		literals[v] = 2 * v
	}
	for i, k := range r.Perm(len(g.Latches)) {
		literals[1+g.Inputs+i] = 2*(1+g.Inputs+k) + r.Intn(2)
	}
	at := func(l int) int { return literals[l/2] ^ l%2 }
	for i, l := range g.Latches {
		to := literals[1+g.Inputs+i]
		h.Latches[to/2-1-g.Inputs] = api.Latch{Next: at(l.Next) ^ to%2, Init: l.Init != (to%2 == 1)}
	}
	for i, and := range g.Ands {
		h.Ands[i] = [2]int{at(and[1]), at(and[0])}
	}
	for i, o := range g.Outputs {
		h.Outputs[i] = at(o)
	}
	return h
}

// TestSmall: all promises, by all states and inputs.
func TestSmall(t *testing.T) {
	r := rand.New(rand.NewSource(1))
	kinds := map[int]int{}
	long := 0
	for range 6000 {
		a := grown(r, r.Intn(4), r.Intn(6), r.Intn(40), r.Intn(4), []int{0, 4, 12}[r.Intn(3)])
		b := retold(r, a)
		for range r.Intn(3) {
			b = spoilt(r, b)
		}
		depth := []int{0, 1, 2, 5, 50, r.Intn(51)}[r.Intn(6)]
		v := holdAll(t, a, b, depth)
		kinds[v.Kind]++
		if len(v.Trace) > 3 {
			long++
		}
	}
	if kinds[api.VOpen] < 100 || kinds[api.VSame] < 1000 || kinds[api.VDiffer] < 500 || long < 3 {
		t.Errorf("kinds of verdicts: %v, %d long traces", kinds, long)
	}
}
