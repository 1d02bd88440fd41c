package sweep

import (
	"math/rand"
	"slices"
	"testing"

	"gatewright/aig"
	"gatewright/api"
	"gatewright/refute"
	"gatewright/sat"
)

// tablesOf tells what each variable of a graph is worth where its inputs and latches are worth what is told: of each one a list of words.
func tablesOf(g *api.Graph, heads [][]uint64, words int) [][]uint64 {
	all := append([][]uint64{make([]uint64, words)}, heads...)
	at := func(literal, k int) uint64 {
		if literal%2 == 1 {
			return ^all[literal/2][k]
		}
		return all[literal/2][k]
	}
	for _, and := range g.Ands {
		table := make([]uint64, words)
		for k := range table {
			table[k] = at(and[0], k) & at(and[1], k)
		}
		all = append(all, table)
	}
	return all
}

// everywhere lets inputs and latches be worth all that they can.
func everywhere(heads int) ([][]uint64, int) {
	words := max(1, 1<<heads/64)
	all := make([][]uint64, heads)
	for i := range all {
		all[i] = make([]uint64, words)
		for k := range words * 64 {
			all[i][k/64] |= uint64(k>>i&1) << (k % 64)
		}
	}
	return all, words
}

func anywhere(r *rand.Rand, heads, words int) ([][]uint64, int) {
	all := make([][]uint64, heads)
	for i := range all {
		for range words {
			all[i] = append(all[i], r.Uint64())
		}
	}
	return all, words
}

// ends gives the outputs of a graph, and its Nexts.
func ends(g *api.Graph) []int {
	list := slices.Clone(g.Outputs)
	for _, l := range g.Latches {
		list = append(list, l.Next)
	}
	return list
}

// holdShape fails unless a graph has the inputs, latches and outputs of another one.
func holdShape(t *testing.T, g, h *api.Graph) {
	t.Helper()
	if !aig.Valid(*h) || h.Inputs != g.Inputs || len(h.Latches) != len(g.Latches) || len(h.Outputs) != len(g.Outputs) || len(h.Ands) > len(g.Ands) {
		t.Fatalf("%+v of %+v", h, g)
	}
	for i := range g.Latches {
		if g.Latches[i].Init != h.Latches[i].Init {
			t.Fatalf("latch %d: %+v of %+v", i, h, g)
		}
	}
}

// holdSame fails unless the ends of two graphs are worth the same where their heads are worth what is told.
func holdSame(t *testing.T, g, h *api.Graph, heads [][]uint64, words int) {
	t.Helper()
	holdShape(t, g, h)
	one, other := tablesOf(g, heads, words), tablesOf(h, heads, words)
	others := ends(h)
	for i, x := range ends(g) {
		y := others[i]
		for k := range words {
			if one[x/2][k]^other[y/2][k] != -uint64((x^y)&1) {
				t.Fatalf("end %d is worth something else: %+v of %+v", i, h, g)
			}
		}
	}
}

// alikeIn gives the pairs of variables that are worth the same, or the opposite, where the heads are worth what is told.
func alikeIn(g *api.Graph, heads [][]uint64, words int) [][2]int {
	var pairs [][2]int
	met := map[string][]int{}
	for v, table := range tablesOf(g, heads, words) {
		turn := -(table[0] & 1)
		var key []byte
		for _, x := range table {
			for k := range 8 {
				key = append(key, byte((x^turn)>>(8*k)))
			}
		}
		for _, w := range met[string(key)] {
			pairs = append(pairs, [2]int{w, v})
		}
		met[string(key)] = append(met[string(key)], v)
	}
	return pairs
}

// holdEverywhere fails unless a swept graph is what the chapter asks, at all that its heads can be worth.
func holdEverywhere(t *testing.T, g, h *api.Graph) {
	t.Helper()
	heads, words := everywhere(g.Inputs + len(g.Latches))
	holdSame(t, g, h, heads, words)
	if pairs := alikeIn(h, heads, words); len(pairs) > 0 {
		t.Fatalf("the same: %v in %+v of %+v", pairs, h, g)
	}
}

// gatesOf tells the gates of a graph in clauses. The formula's variables: 1, then those of the heads, then those of the gates, from some number on.
func gatesOf(g *api.Graph, from int) (clauses [][]int, literal func(l int) int) {
	first := 1 + g.Inputs + len(g.Latches)
	literal = func(l int) int {
		n := l/2 + 1
		if l/2 >= first {
			n = from + l/2 - first
		}
		if l%2 == 1 {
			return -n
		}
		return n
	}
	clauses = [][]int{{-1}}
	for i, and := range g.Ands {
		x, p, q := from+i, literal(and[0]), literal(and[1])
		clauses = append(clauses, []int{-x, p}, []int{-x, q}, []int{x, -p, -q})
	}
	return clauses, literal
}

// provenSame fails unless the ends of two graphs are the same, which a checked refutation tells.
func provenSame(t *testing.T, g, h *api.Graph) {
	t.Helper()
	holdShape(t, g, h)
	heads := 1 + g.Inputs + len(g.Latches)
	clauses, one := gatesOf(g, heads+1)
	more, other := gatesOf(h, heads+1+len(g.Ands))
	clauses = append(clauses, more...)
	vars := heads + len(g.Ands) + len(h.Ands)
	// One end after the other: what has been shown is told to the formulas behind it.
	others := ends(h)
	for i, l := range ends(g) {
		x, y := one(l), other(others[i])
		f := api.Formula{Vars: vars, Clauses: append(slices.Clone(clauses), []int{x, y}, []int{-x, -y})}
		if a := sat.Solve(f); a.Sat || !refute.Check(f, a.Proof) {
			t.Fatalf("end %d is worth something else: %+v of %+v", i, h, g)
		}
		clauses = append(clauses, []int{x, -y}, []int{-x, y})
	}
}

// provenUnlike fails if two variables of a graph are the same.
func provenUnlike(t *testing.T, r *rand.Rand, h *api.Graph) {
	t.Helper()
	heads, words := anywhere(r, h.Inputs+len(h.Latches), 64)
	clauses, literal := gatesOf(h, 2+len(heads))
	for _, p := range alikeIn(h, heads, words) {
		x, y := literal(2*p[0]), literal(2*p[1])
		for _, turn := range []int{1, -1} {
			f := api.Formula{Vars: 1 + len(heads) + len(h.Ands), Clauses: append(slices.Clone(clauses), []int{x, turn * y}, []int{-x, -turn * y})}
			if !sat.Solve(f).Sat {
				t.Fatalf("the same: %v in %+v", p, h)
			}
		}
	}
}
