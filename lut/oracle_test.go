package lut

import (
	"math/rand"
	"reflect"
	"slices"
	"testing"

	"gatewright/aig"
	"gatewright/api"
)

// leaves is a set of at most four variables, ascending; 0 stands ahead where there are fewer.
type leaves [4]int

// with gives both sets as one, if it is not too large.
func (one leaves) with(other leaves) (both leaves, isCut bool) {
	both = one
	for _, v := range other {
		if v == 0 || slices.Contains(both[:], v) {
			continue
		}
		if both[0] != 0 {
			return leaves{}, false
		}
		both[0] = v
		for i := 0; i < 3 && both[i] > both[i+1]; i++ {
			both[i], both[i+1] = both[i+1], both[i]
		}
	}
	return both, true
}

// allCuts gives all cuts of all variables as the chapter says it, of gates without themselves.
func allCuts(g *api.Graph) [][]leaves {
	cuts := [][]leaves{{{}}}
	for v := 1; v < firstGate(g); v++ {
		cuts = append(cuts, []leaves{{0, 0, 0, v}})
	}
	above := func(v int) []leaves {
		if v < firstGate(g) {
			return cuts[v]
		}
		return append([]leaves{{0, 0, 0, v}}, cuts[v]...)
	}
	for _, and := range g.Ands {
		met := map[leaves]int{}
		var list []leaves
		for _, one := range above(and[0] / 2) {
			for _, other := range above(and[1] / 2) {
				if both, isCut := one.with(other); isCut && met[both] == 0 {
					met[both] = 1
					list = append(list, both)
				}
			}
		}
		cuts = append(cuts, list)
	}
	return cuts
}

// depthsByCuts tells the least depth of each variable, over all its cuts.
func depthsByCuts(g *api.Graph) []int {
	depths := make([]int, firstGate(g)+len(g.Ands))
	for v, cuts := range allCuts(g) {
		if v < firstGate(g) {
			continue
		}
		depths[v] = 1 << 30
		for _, c := range cuts {
			deepest := 0
			for _, leaf := range c {
				deepest = max(deepest, depths[leaf])
			}
			depths[v] = min(depths[v], 1+deepest)
		}
	}
	return depths
}

// depthsByFlow tells the least depth of each variable: at each depth of leaves, one after the other, it asks whether there are five ways apart. If there are not, four variables cut all of them.
func depthsByFlow(g *api.Graph) []int {
	depths := make([]int, firstGate(g)+len(g.Ands))
	for v := firstGate(g); v < len(depths); v++ {
		for most := 0; depths[v] == 0; most++ {
			if isCutAt(g, depths, v, most) {
				depths[v] = 1 + most
			}
		}
	}
	return depths
}

// isCutAt asks whether at most four variables that are not deeper than told cut a gate off. Each variable is two nodes, an entry and an exit, with one way between them, or with any number of them if it may not be a leaf.
func isCutAt(g *api.Graph, depths []int, gate, most int) bool {
	const many = 9
	sink := 2 * len(depths)
	room := map[[2]int]int{}
	next := map[int][]int{}
	join := func(from, to, ways int) {
		room[[2]int{from, to}] += ways
		next[from] = append(next[from], to)
		next[to] = append(next[to], from)
	}
	var cone func(v int)
	met := map[int]int{}
	cone = func(v int) {
		if met[v] != 0 || v == 0 {
			return
		}
		met[v] = 1
		ways := 1
		if v == gate || depths[v] > most {
			ways = many
		}
		join(2*v, 2*v+1, ways)
		if v < firstGate(g) {
			join(2*v+1, sink, many)
			return
		}
		for _, l := range g.Ands[v-firstGate(g)] {
			if l/2 != 0 {
				join(2*v+1, 2*(l/2), many)
				cone(l / 2)
			}
		}
	}
	cone(gate)
	var push func(node int, visited map[int]int) bool
	push = func(node int, visited map[int]int) bool {
		if node == sink {
			return true
		}
		visited[node] = 1
		for _, to := range next[node] {
			if visited[to] == 0 && room[[2]int{node, to}] > 0 && push(to, visited) {
				room[[2]int{node, to}]--
				room[[2]int{to, node}]++
				return true
			}
		}
		return false
	}
	for range 5 {
		if !push(2*gate, map[int]int{}) {
			return true
		}
	}
	return false
}

// leastDepth is the least depth of a graph whose variables have these.
func leastDepth(g *api.Graph, depths []int) int {
	deepest := 0
	for _, l := range ends(g) {
		deepest = max(deepest, depths[l/2])
		if v := l / 2; v > 0 && v < firstGate(g) && l%2 == 1 {
			deepest = max(deepest, 1)
		}
	}
	return deepest
}

// opened lets the latches of a graph be inputs behind the others, and their Nexts outputs.
func opened(g api.Graph) api.Graph {
	return api.Graph{Inputs: g.Inputs + len(g.Latches), Ands: g.Ands, Outputs: ends(&g)}
}

// openedNet likewise.
func openedNet(n api.Tables) api.Tables {
	return api.Tables{Inputs: n.Inputs + len(n.Init), Tables: n.Tables, Outputs: append(slices.Clone(n.Outputs), n.Next...)}
}

// spelledRows gives all rows of so many inputs, or, if these would be too many, some.
func spelledRows(r *rand.Rand, inputs, bound int) [][]bool {
	if inputs > 20 || 1<<inputs > bound {
		rows := make([][]bool, bound)
		for i := range rows {
			for range inputs {
				rows[i] = append(rows[i], r.Intn(2) == 0)
			}
		}
		return rows
	}
	rows := make([][]bool, 1<<inputs)
	for k := range rows {
		for i := range inputs {
			rows[k] = append(rows[k], k>>i&1 == 1)
		}
	}
	return rows
}

// holdMapped fails unless a graph is mapped as the chapter asks; least is its least depth.
func holdMapped(t *testing.T, r *rand.Rand, g api.Graph, least, rows int) api.Tables {
	t.Helper()
	before := graphCopy(g)
	n := Map(g)
	if !reflect.DeepEqual(g, before) {
		t.Fatalf("the graph is changed: %+v", before)
	}
	if !Valid(n) || n.Inputs != g.Inputs || len(n.Init) != len(g.Latches) || len(n.Outputs) != len(g.Outputs) {
		t.Fatalf("%+v of %+v", n, g)
	}
	for i := range g.Latches {
		if n.Init[i] != g.Latches[i].Init {
			t.Fatalf("register %d begins otherwise: %+v of %+v", i, n, g)
		}
	}
	if Depth(n) > least {
		t.Fatalf("depth %d, least %d: %+v of %+v", Depth(n), least, n, g)
	}
	if most := mostTables(&g); len(n.Tables) > most {
		t.Fatalf("%d tables, at most %d are needed: %+v of %+v", len(n.Tables), most, n, g)
	}
	trace := spelledRows(r, g.Inputs+len(g.Latches), rows)
	if got, want := Run(openedNet(n), trace), aig.Run(opened(g), trace); !reflect.DeepEqual(got, want) {
		t.Fatalf("it shows something else: %+v of %+v", n, g)
	}
	return n
}

// mostTables counts the gates, and the variables that are taken inverted.
func mostTables(g *api.Graph) int {
	inverted := map[int]int{}
	for _, l := range ends(g) {
		if l > 1 && l%2 == 1 {
			inverted[l] = 1
		}
	}
	return len(g.Ands) + len(inverted)
}
