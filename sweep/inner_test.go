package sweep

import (
	"math/rand"
	"reflect"
	"slices"
	"sync"
	"testing"

	"gatewright/aig"
	"gatewright/api"
	"gatewright/pattern"
	"gatewright/sat"
)

func TestEach(t *testing.T) {
	for _, count := range []int{0, 1, workers - 1, workers, workers + 1, 1000} {
		var things []int
		for i := range count {
			things = append(things, i)
		}
		var lock sync.Mutex
		times := make([]int, count)
		results := each(things, func(i int) string {
			lock.Lock()
			times[i]++
			lock.Unlock()
			return string(rune(i))
		})
		if len(results) != count {
			t.Fatalf("%d results of %d", len(results), count)
		}
		for i, x := range results {
			if x != string(rune(i)) || times[i] != 1 {
				t.Errorf("thing %d of %d: %q, %d times", i, count, x, times[i])
			}
		}
	}
}

func TestLevelled(t *testing.T) {
	r := rand.New(rand.NewSource(11))
	for range 300 {
		g := aig.Clean(aig.Hash(grown(r, r.Intn(20), r.Intn(20), r.Intn(200), r.Intn(20), 0)))
		l, numbers := levelled(&g)
		if l.variables() != 1+len(l.heads)+len(g.Ands) || l.first != 1+len(l.heads) {
			t.Fatalf("%+v of %+v", l, g)
		}
		levels := make([]int, l.variables())
		for i, and := range l.ands {
			v := l.first + i
			levels[v] = 1 + max(levels[and[0]/2], levels[and[1]/2])
			if levels[v] < levels[v-1] || and[0]/2 >= v || and[0] < and[1] || v >= l.ends[levels[v]-1] || levels[v] > 1 && v < l.ends[levels[v]-2] {
				t.Fatalf("gate %d: %+v of %+v", i, l, g)
			}
		}
		first := 1 + g.Inputs + len(g.Latches)
		for i, and := range g.Ands {
			want := ordered(2*numbers[and[0]/2]+and[0]%2, 2*numbers[and[1]/2]+and[1]%2)
			if l.ands[numbers[first+i]-l.first] != want {
				t.Fatalf("gate %d: %+v of %+v", i, l, g)
			}
		}
		for i, v := range l.heads {
			if numbers[v] != i+1 || v >= first {
				t.Fatalf("head %d: %+v of %+v", i, l, g)
			}
		}
	}
}

// TestCounting: all patterns are run, each once (or equally often, if they are fewer than a block has).
func TestCounting(t *testing.T) {
	for _, heads := range []int{0, 1, 5, 6, 8, 9, 10, 12} {
		l := layers{first: 1 + heads, heads: make([]int, heads)}
		p := l.patternsOf()
		times := make([]int, 1<<heads)
		for number := range p.blocks {
			for k := range 1 << pattern.BlockBits {
				spelled := 0
				for v := 1; v <= heads; v++ {
					b := p.head(v, number)
					spelled |= int(b[k/64]>>(k%64)&1) << (v - 1)
				}
				times[spelled]++
			}
		}
		want := p.blocks << pattern.BlockBits >> heads
		if !p.isAll || slices.ContainsFunc(times, func(x int) bool { return x != want }) {
			t.Errorf("%d heads: %v", heads, times)
		}
	}
	for _, heads := range []int{30, 60, 59999} {
		l := layers{first: 1 + heads, heads: make([]int, heads)}
		if p := l.patternsOf(); p.isAll || p.blocks > 1000 {
			t.Errorf("%d heads: %d blocks", heads, p.blocks)
		}
	}
}

// TestNear: each sample is the first pattern of a word; the others are few heads away from it.
func TestNear(t *testing.T) {
	r := rand.New(rand.NewSource(12))
	l := layers{first: 51}
	for count := 1; count <= sampleWords; count++ {
		var samples []sample
		for range count {
			var s sample
			for v := 1; v <= 50; v++ {
				if r.Intn(2) == 0 {
					s.heads = append(s.heads, v)
					s.worth = append(s.worth, r.Intn(2) == 0)
				}
			}
			samples = append(samples, s)
		}
		head := l.near(samples, 1+r.Intn(9))
		for k := range sampleWords {
			s := samples[k%count]
			for pattern := range 64 {
				away := 0
				for i, v := range s.heads {
					if (head(v)[k]>>pattern&1 == 1) != s.worth[i] {
						away++
					}
				}
				if away > 8 || away > 1 && pattern < 16 || away > 0 && pattern == 0 {
					t.Errorf("%d heads away at pattern %d", away, pattern)
				}
			}
		}
	}
	nothing := l.near([]sample{{}}, 1)
	if nothing(3) != pattern.Some(3, someBlocks+1) {
		t.Error("a sample without heads")
	}
}

func TestSums(t *testing.T) {
	r := rand.New(rand.NewSource(14))
	some := func() (sum, map[int]bool) {
		x, is := sum{turn: r.Intn(2)}, map[int]bool{}
		for v := range 12 {
			if r.Intn(2) == 0 {
				x.terms = append(x.terms, 300*v+v)
				is[300*v+v] = true
			}
		}
		return x, is
	}
	for range 500 {
		a, inA := some()
		b, inB := some()
		x := xor(a, b)
		for v := range 4000 {
			if slices.Contains(x.terms, v) != (inA[v] != inB[v]) {
				t.Fatalf("%v and %v: %v", a, b, x)
			}
		}
		if !slices.IsSorted(x.terms) || x.turn != a.turn^b.turn {
			t.Fatalf("%v and %v: %v", a, b, x)
		}
		if (a.key() == b.key()) != slices.Equal(a.terms, b.terms) {
			t.Fatalf("%v and %v have the keys %q, %q", a, b, a.key(), b.key())
		}
	}
	s := newSums()
	s.note(9, sum{[]int{3, 5}, 1})
	for _, c := range []struct {
		x       sum
		literal int
		isKnown bool
	}{
		{sum{nil, 0}, 0, true},
		{sum{nil, 1}, 1, true},
		{sum{[]int{7}, 0}, 14, true},
		{sum{[]int{7}, 1}, 15, true},
		{sum{[]int{3, 5}, 1}, 18, true},
		{sum{[]int{3, 5}, 0}, 19, true},
		{sum{[]int{3, 6}, 0}, 0, false},
	} {
		if l, isKnown := s.literal(c.x); isKnown != c.isKnown || isKnown && l != c.literal {
			t.Errorf("%v: %d, %v", c.x, l, isKnown)
		}
	}
	if x := s.expanded(sum{[]int{3, 9}, 1}); !reflect.DeepEqual(x, sum{[]int{5}, 0}) {
		t.Errorf("%v", x)
	}
}

// TestCuts: the leaves of each cut tell what the gate is worth, as its table says; and its sum, if there is one.
func TestCuts(t *testing.T) {
	r := rand.New(rand.NewSource(17))
	summed := 0
	for range 200 {
		g := aig.Clean(aig.Hash(woven(r, 5, 80)))
		l, _ := levelled(&g)
		c := make(cuts)
		heads, words := everywhere(len(l.heads))
		all := tablesOf(&api.Graph{Inputs: len(l.heads), Ands: l.ands}, heads, words)
		at := func(v int) uint64 { return all[v][0] }
		for i, and := range l.ands {
			v := l.first + i
			c.note(v, and)
			if len(c[v]) == 0 || len(c[v]) > mostCuts {
				t.Fatalf("%d cuts", len(c[v]))
			}
			for _, x := range c[v] {
				leaves := x.leaves[:x.count]
				if !slices.IsSorted(leaves) || slices.Contains(leaves, v) {
					t.Fatalf("%+v of gate %d", x, v)
				}
				sum, isSum := x.sum()
				odd := -uint64(sum.turn)
				for _, w := range sum.terms {
					odd ^= at(w)
				}
				for k := range 1 << len(heads) {
					spelled := 0
					for i, w := range leaves {
						spelled |= int(at(w)>>k&1) << i
					}
					if x.table>>spelled&1 != uint8(at(v)>>k&1) || isSum && (odd^at(v))>>k&1 != 0 {
						t.Fatalf("%+v of gate %d", x, v)
					}
				}
				if isSum && len(sum.terms) > 1 {
					summed++
				}
			}
		}
	}
	if summed < 200 {
		t.Errorf("only %d sums", summed)
	}
}

// TestLongSums: what is too long for a sum is a term of others.
func TestLongSums(t *testing.T) {
	r := rand.New(rand.NewSource(15))
	m := &maker{}
	list := m.inputs(mostTerms + 150)
	long := m.fold(list, m.xor)
	m.out(m.fold(append([]int{long}, list[:50]...), m.xor), m.fold(append(shuffled(r, list[:50]), long), m.xor))
	h := Graph(m.Graph)
	heads, words := anywhere(r, m.Inputs, 8)
	holdSame(t, &m.Graph, &h, heads, words)
	if h.Outputs[0] != h.Outputs[1] {
		t.Error("they stay apart")
	}
}

// TestWindows: what follows from a part of the gates holds; what the whole says is right either way.
func TestWindows(t *testing.T) {
	r := rand.New(rand.NewSource(16))
	parts := 0
	for range 400 {
		g := aig.Clean(aig.Hash(woven(r, 6, 60)))
		l, there := levelled(&g)
		heads, words := everywhere(g.Inputs)
		all := tablesOf(&g, heads, words)
		numbers := make([]int, l.variables()) // back to the graph's
		for v, n := range there {
			numbers[n] = v
		}
		numbers[0] = 0
		one, other := r.Intn(2*l.variables()), r.Intn(2*l.variables())
		isSame := true
		for k := range words {
			x, y := all[numbers[one/2]][k], all[numbers[other/2]][k]
			isSame = isSame && x^y == -uint64((one^other)&1)
		}
		for _, most := range []int{0, 1, 5, 20, 60} {
			w := l.windowOf(one, other, most)
			if len(w.gates) > most || !slices.IsSorted(w.edge) || w.isWhole != (len(w.edge) == 0 || w.edge[len(w.edge)-1] < l.first) {
				t.Fatalf("%+v", w)
			}
			isSat := sat.Solve(l.formula(w, one, other)).Sat
			if isSat && isSame && w.isWhole || !isSat && !isSame {
				t.Fatalf("%d and %d, %d gates: %v", one, other, most, isSat)
			}
			if !w.isWhole {
				parts++
			}
		}
	}
	if parts < 100 {
		t.Errorf("only %d parts", parts)
	}
}

// TestBudget: what all questions of the moment may do is never more than is left, but that each may do a little.
func TestBudget(t *testing.T) {
	b := newBudget(mostWhole + 1)
	for !b.isSpent() {
		for _, questions := range []int{1, askedAtOnce} {
			if b.divide(questions); b.share < leastWork || b.share > leastWork && b.share*questions > b.work {
				t.Fatalf("%d questions: %+v", questions, b)
			}
		}
		b.spend(allWork / 100)
	}
	b = newBudget(mostWhole)
	for range 100 {
		if b.divide(1); b.share < 1<<62 || b.isSpent() {
			t.Fatalf("%+v", b)
		}
		b.spend(1 << 62)
	}
}
