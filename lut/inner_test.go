package lut

import (
	"math/rand"
	"reflect"
	"slices"
	"testing"

	"gatewright/aig"
	"gatewright/api"
)

func TestLists(t *testing.T) {
	var words lists[string]
	words.add("a", "b")
	words.add()
	words.add("c")
	for i, want := range [][]string{{"a", "b"}, {}, {"c"}} {
		if got := words.at(i); !slices.Equal(got, want) {
			t.Errorf("list %d: %v, want %v", i, got, want)
		}
	}
	if first := append(words.at(0), "x"); first[2] != "x" || words.at(2)[0] != "c" {
		t.Error("what is appended to a list falls upon another one")
	}
}

// TestDepths: the finder's depths are those of the chapter, whether a graph is hashed or not, and it keeps few cuts.
func TestDepths(t *testing.T) {
	r := rand.New(rand.NewSource(11))
	hold := func(g api.Graph, want []int, mostCuts int) {
		t.Helper()
		f := found(&g)
		if !reflect.DeepEqual(f.depths, want) {
			t.Fatalf("%v, want %v: %+v", f.depths, want, g)
		}
		for v := range want {
			if count := len(f.cuts.at(v)); count > mostCuts {
				t.Fatalf("%d cuts of %d: %+v", count, v, g)
			}
		}
	}
	for range 2000 {
		g := grown(r, r.Intn(8), r.Intn(3), r.Intn(18), 3, r.Intn(12))
		hold(g, depthsByCuts(&g), 10)
		g = aig.Hash(g)
		hold(g, depthsByCuts(&g), 9)
	}
	for range 300 {
		g := band(r, 3+r.Intn(4), 18, r.Intn(waysOn))
		hold(g, depthsByCuts(&g), 10)
	}
	for range 30 {
		g := grown(r, 5+r.Intn(30), r.Intn(3), 150, 3, 30*r.Intn(4))
		hold(g, depthsByFlow(&g), 10)
	}
	for range 30 {
		g := aig.Hash(band(r, 3+r.Intn(9), 150, r.Intn(waysOn)))
		hold(g, depthsByFlow(&g), 9)
	}
}

// TestHashing: hashing and cleaning make no graph deeper.
func TestHashing(t *testing.T) {
	r := rand.New(rand.NewSource(12))
	for range 2000 {
		g := grown(r, r.Intn(8), r.Intn(3), r.Intn(18), 1+r.Intn(4), r.Intn(12))
		h := aig.Clean(aig.Hash(g))
		if one, other := leastDepth(&g, depthsByCuts(&g)), leastDepth(&h, depthsByCuts(&h)); other > one {
			t.Fatalf("%d, hashed %d: %+v", one, other, g)
		}
	}
}

// between gives the variables that ways from a gate meet ahead of a cut's leaves.
func between(g *api.Graph, gate int, c leaves) map[int]int {
	met := map[int]int{}
	var walk func(v int)
	walk = func(v int) {
		if v == 0 || met[v] != 0 || slices.Contains(c[:], v) {
			return
		}
		met[v] = 1
		if v >= firstGate(g) {
			walk(g.Ands[v-firstGate(g)][0] / 2)
			walk(g.Ands[v-firstGate(g)][1] / 2)
		}
	}
	walk(gate)
	return met
}

func (one leaves) count() int {
	count := 0
	for _, v := range one {
		count += min(1, v)
	}
	return count
}

// isFarther asks whether a cut has no more leaves than another one, and more between it and the gate.
func isFarther(g *api.Graph, gate int, one, other leaves) bool {
	if one.count() > other.count() {
		return false
	}
	near, far := between(g, gate, other), between(g, gate, one)
	for v := range near {
		if far[v] == 0 {
			return false
		}
	}
	return len(far) > len(near) || one.count() < other.count()
}

// TestKept: of all cuts those are kept than which none is farther from the gate, at the price of no leaf.
func TestKept(t *testing.T) {
	r := rand.New(rand.NewSource(13))
	for k := range 400 {
		g := aig.Hash(grown(r, 1+r.Intn(6), 0, r.Intn(18), 3, r.Intn(9)))
		if k%2 == 0 {
			g = aig.Hash(band(r, 3+r.Intn(4), 16, r.Intn(waysOn)))
		}
		f := found(&g)
		for v, cuts := range allCuts(&g) {
			if v < firstGate(&g) {
				continue
			}
			kept := map[leaves]int{}
			for _, c := range f.cuts.at(v)[1:] {
				own, _ := leaves{}.with(leaves(c.leaves))
				kept[own] = 1
			}
			for _, c := range cuts {
				isBeaten := slices.ContainsFunc(cuts, func(other leaves) bool { return isFarther(&g, v, other, c) })
				if isBeaten == (kept[c] == 1) {
					t.Fatalf("cut %v of %d: kept %v: %+v", c, v, kept[c] == 1, g)
				}
			}
		}
	}
}

// TestTables: what a cut's table tells, at all that inputs can be worth.
func TestTables(t *testing.T) {
	r := rand.New(rand.NewSource(14))
	for range 300 {
		g := grown(r, 1+r.Intn(6), 0, r.Intn(25), 0, r.Intn(9))
		for v := range firstGate(&g) + len(g.Ands) {
			g.Outputs = append(g.Outputs, 2*v)
		}
		f := found(&g)
		for _, worth := range aig.Run(g, spelledRows(r, g.Inputs, 64)) {
			for v := range worth {
				for _, c := range f.cuts.at(v) {
					spelled, few := 0, 0
					for i, leaf := range c.list() {
						if worth[leaf] {
							spelled |= 1 << i
						}
					}
					for i, place := range c.weighty() {
						few |= spelled >> place & 1 << i
					}
					if c.table>>spelled&1 == 1 != worth[v] || c.bits(c.weighty())>>few&1 == 1 != worth[v] {
						t.Fatalf("cut %+v of %d at %v: %+v", c, v, worth, g)
					}
				}
			}
		}
	}
}

// TestWeighty: a leaf counts only if it can turn the table.
func TestWeighty(t *testing.T) {
	for table := range 1 << 16 {
		c := cut{count: 4, table: uint16(table)}
		for i := range 4 {
			turns := false
			for k := range 16 {
				turns = turns || c.table>>k&1 != c.table>>(k^1<<i)&1
			}
			if turns != slices.Contains(c.weighty(), i) {
				t.Fatalf("leaf %d of the table %d", i, table)
			}
		}
	}
}
