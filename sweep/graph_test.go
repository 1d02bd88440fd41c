package sweep

import (
	"math/rand"
	"reflect"
	"runtime"
	"testing"

	"gatewright/aig"
	"gatewright/api"
	"gatewright/pattern"
)

func TestGraphByHand(t *testing.T) {
	latch := []api.Latch{{Next: 2, Init: true}, {Next: 7}}
	for _, c := range []struct {
		name string
		g    api.Graph
		want api.Graph
	}{
		{"nothing", api.Graph{}, api.Graph{}},
		{"no gate", api.Graph{Inputs: 2, Latches: latch, Outputs: []int{0, 1, 9, 4, 4}}, api.Graph{Inputs: 2, Latches: latch, Outputs: []int{0, 1, 9, 4, 4}}},
		{"a gate that nobody needs", api.Graph{Inputs: 2, Ands: [][2]int{{2, 4}}}, api.Graph{Inputs: 2}},
		{"one gate", api.Graph{Inputs: 2, Ands: [][2]int{{2, 5}}, Outputs: []int{7}}, api.Graph{Inputs: 2, Ands: [][2]int{{5, 2}}, Outputs: []int{7}}},
		{"constants", api.Graph{Ands: [][2]int{{0, 0}, {1, 1}, {5, 3}}, Outputs: []int{2, 3, 4, 5, 6, 7}}, api.Graph{Outputs: []int{0, 1, 1, 0, 0, 1}}},
		{"an input", api.Graph{Inputs: 1, Ands: [][2]int{{2, 2}, {5, 1}}, Outputs: []int{4, 6}}, api.Graph{Inputs: 1, Outputs: []int{2, 3}}},
		{"the same gate", api.Graph{Inputs: 2, Ands: [][2]int{{2, 4}, {4, 2}}, Outputs: []int{6, 9}}, api.Graph{Inputs: 2, Ands: [][2]int{{4, 2}}, Outputs: []int{6, 7}}},
		{"what is taken in: a and (a or b)", api.Graph{Inputs: 2, Ands: [][2]int{{3, 5}, {2, 7}}, Outputs: []int{8}}, api.Graph{Inputs: 2, Outputs: []int{2}}},
		{"a latch, and the opposite of it", api.Graph{Latches: []api.Latch{{Next: 8}, {Next: 6, Init: true}}, Ands: [][2]int{{2, 4}, {2, 5}, {7, 9}}, Outputs: []int{10, 11}},
			api.Graph{Latches: []api.Latch{{Next: 8}, {Next: 6, Init: true}}, Ands: [][2]int{{4, 2}, {5, 2}}, Outputs: []int{3, 2}}},
	} {
		if h := Graph(c.g); !reflect.DeepEqual(h, c.want) {
			t.Errorf("%s: %+v, want %+v", c.name, h, c.want)
		}
	}
}

func TestNoGraph(t *testing.T) {
	for name, g := range map[string]api.Graph{
		"fewer inputs than none":     {Inputs: -1, Outputs: []int{0}},
		"too many inputs":            {Inputs: 60000},
		"too many latches":           {Latches: make([]api.Latch, 6001)},
		"too many outputs":           {Outputs: make([]int, 60001)},
		"a gate on itself":           {Inputs: 1, Ands: [][2]int{{2, 4}}, Outputs: []int{4}},
		"a gate below all":           {Inputs: 1, Ands: [][2]int{{-1, 2}}, Outputs: []int{4}},
		"an output beyond all":       {Inputs: 1, Outputs: []int{4}},
		"a Next below all":           {Latches: []api.Latch{{Next: -2}}},
		"as many inputs as can be":   {Inputs: 1<<63 - 1},
		"a gate on one behind it":    {Inputs: 1, Ands: [][2]int{{2, 6}, {2, 3}}},
		"far fewer inputs than none": {Inputs: -1 << 63},
	} {
		if h := Graph(g); !reflect.DeepEqual(h, api.Graph{}) {
			t.Errorf("%s: %+v", name, h)
		}
	}
}

// smallGraph makes a random graph of few heads and of no more than 300 gates.
func smallGraph(r *rand.Rand) api.Graph {
	switch gates := []int{r.Intn(12), r.Intn(60), r.Intn(301), 300}[r.Intn(4)]; r.Intn(4) {
	case 0:
		return grown(r, r.Intn(6), r.Intn(5), gates, r.Intn(20), 0)
	case 1:
		return grown(r, r.Intn(6), r.Intn(5), gates, r.Intn(60), 1+r.Intn(40))
	default:
		return woven(r, 2+r.Intn(9), gates)
	}
}

// TestSmall: all promises, at all inputs and latches.
func TestSmall(t *testing.T) {
	r := rand.New(rand.NewSource(1))
	gates, left := 0, 0
	for range 3000 {
		g := smallGraph(r)
		old := copyOf(g)
		h := Graph(g)
		holdEverywhere(t, &g, &h)
		if again := Graph(g); !reflect.DeepEqual(again, h) {
			t.Fatalf("%+v, and another time %+v", h, again)
		}
		if again := Graph(h); len(again.Ands) != len(h.Ands) {
			t.Fatalf("%+v, swept again %+v", h, again)
		}
		gates += len(aig.Clean(aig.Hash(g)).Ands)
		left += len(h.Ands)
		for i := range h.Ands {
			h.Ands[i] = [2]int{-1, -1}
		}
		for i := range h.Latches {
			h.Latches[i].Next = -1
		}
		for i := range h.Outputs {
			h.Outputs[i] = -1
		}
		if !reflect.DeepEqual(g, old) {
			t.Fatalf("%+v was %+v", g, old)
		}
	}
	if left == 0 || left > gates*4/5 {
		t.Errorf("of %d gates %d are left", gates, left)
	}
}

// TestQuestions: where few or no patterns have been run, or such as tell little, the solver decides.
func TestQuestions(t *testing.T) {
	r := rand.New(rand.NewSource(2))
	dull := func(v, number int) pattern.Block { return pattern.Filled(number == v) }
	for i := range 2000 {
		g := smallGraph(r)
		clean := aig.Clean(aig.Hash(g))
		l, numbers := levelled(&clean)
		s := newSweeper(l, []patterns{{}, {blocks: 1, head: pattern.Some}, {blocks: 3, head: dull}}[i%3])
		s.sweep()
		h := aig.Clean(s.left(&clean, numbers))
		holdEverywhere(t, &g, &h)
	}
}

// TestManyHeads: no more than 300 gates, but too many inputs and latches for all patterns.
func TestManyHeads(t *testing.T) {
	r := rand.New(rand.NewSource(3))
	for i := range 80 {
		var g api.Graph
		switch i % 4 {
		case 0:
			g = grown(r, 30+r.Intn(60), r.Intn(20), 300, 60, 20+r.Intn(60))
		case 1:
			g = grown(r, 30+r.Intn(10), r.Intn(10), 300, 100, 0)
		default:
			g = woven(r, 26+r.Intn(20), 200+r.Intn(101))
		}
		h := Graph(g)
		provenSame(t, &g, &h)
		provenUnlike(t, r, &h)
	}
}

// named is a graph with a name.
type named struct {
	name string
	g    api.Graph
}

// hardGraphs are of no more than 300 gates, and hard to see through.
func hardGraphs(r *rand.Rand) []named {
	var all []named
	for _, c := range []struct {
		name       string
		inputs     int
		one, other func(m *maker, a, b int) int
	}{
		{"two parities", 50, (*maker).xor, (*maker).xor},
		{"parities, one of them nand", 42, (*maker).xor, (*maker).nandXor},
		{"parities, nand and nor", 36, (*maker).nandXor, (*maker).norXor},
	} {
		m := &maker{}
		list := m.inputs(c.inputs)
		m.out(m.fold(shuffled(r, list), func(a, b int) int { return c.one(m, a, b) }))
		m.out(m.fold(shuffled(r, list), func(a, b int) int { return c.other(m, a, b) }))
		all = append(all, named{c.name, m.Graph})
	}
	m := &maker{}
	list := m.inputs(43)
	x := list[0]
	for i := 1; i < len(list); i += 2 {
		x = m.mirror(list[i], x, list[i+1])
	}
	m.out(x, m.fold(shuffled(r, list), m.xor))
	all = append(all, named{"parities, three by three", m.Graph})
	m = &maker{}
	a, b, c := m.inputs(8), m.inputs(8), m.inputs(8)
	m.out(m.add(m.add(a, b), c)...)
	m.out(m.add(m.add(c, a), b)...)
	all = append(all, named{"sums of three", m.Graph})
	return append(all, named{"pigeons", pigeons(r, 6)}, named{"edges", edges(r, 30, 4)}, named{"fewer edges", edges(r, 42, 3)})
}

// pigeons says that each of some pigeons has one of fewer holes for itself: it is false.
func pigeons(r *rand.Rand, holes int) api.Graph {
	m := &maker{}
	var sits [][]int
	for range holes + 1 {
		sits = append(sits, m.inputs(holes))
	}
	var all []int
	for i := range sits {
		all = append(all, m.fold(sits[i], m.or))
		for k := range i {
			for hole := range holes {
				all = append(all, m.and(sits[i][hole], sits[k][hole])^1)
			}
		}
	}
	m.out(m.fold(shuffled(r, all), m.and))
	return m.Graph
}

// edges says that of a random graph's edges such are chosen as meet in each point in an even number, but in one of them in an odd one: it is false.
func edges(r *rand.Rand, points, degree int) api.Graph {
	m := &maker{}
	at := make([][]int, points)
	list := m.inputs(points * degree / 2)
	for i, p := range r.Perm(points * degree) {
		at[p/degree] = append(at[p/degree], list[i/2])
	}
	var all []int
	for i := range at {
		x := m.fold(at[i], m.xor) ^ 1
		if i == 0 {
			x ^= 1
		}
		all = append(all, x)
	}
	m.out(m.fold(all, m.and))
	return m.Graph
}

func TestHard(t *testing.T) {
	r := rand.New(rand.NewSource(4))
	for _, c := range hardGraphs(r) {
		if len(c.g.Ands) > mostWhole {
			t.Fatalf("%s: %d gates", c.name, len(c.g.Ands))
		}
		h := Graph(c.g)
		heads, words := anywhere(r, c.g.Inputs, 64)
		holdSame(t, &c.g, &h, heads, words)
		provenUnlike(t, r, &h)
		// What is said twice is there once; what is false is found to be so.
		half := len(h.Outputs) / 2
		for i := range half {
			if h.Outputs[i]/2 != h.Outputs[half+i]/2 {
				t.Errorf("%s: the outputs are %v", c.name, h.Outputs)
			}
		}
		if len(h.Outputs) == 1 && h.Outputs[0] != 0 {
			t.Errorf("%s: the output is %v", c.name, h.Outputs)
		}
	}
}

// TestChains: gates that are hardly ever true, or false, are not taken for constants, nor for each other.
func TestChains(t *testing.T) {
	m := &maker{}
	list := m.inputs(200)
	m.out(m.fold(list, m.and), m.fold(list[100:], m.or))
	if h := Graph(m.Graph); len(h.Ands) != len(m.Ands) {
		t.Errorf("of %d gates %d are left", len(m.Ands), len(h.Ands))
	}
}

// TestLarger: of graphs with more gates, what is easily seen to be the same is made one.
func TestLarger(t *testing.T) {
	r := rand.New(rand.NewSource(5))
	m := &maker{}
	a, b, c := m.inputs(24), m.inputs(24), m.inputs(24)
	one := m.add(a, m.add(b, c))
	m.out(one...)
	alone := Graph(m.Graph)
	m.out(m.addByChoice(m.add(a, c), b)...)
	h := Graph(m.Graph)
	heads, words := anywhere(r, 72, 64)
	holdSame(t, &m.Graph, &h, heads, words)
	for i := range one {
		if h.Outputs[i] != h.Outputs[len(one)+i] {
			t.Errorf("bit %d of the sums stays apart", i)
		}
	}
	if len(h.Ands) > len(alone.Ands) {
		t.Errorf("%d gates, one sum has %d", len(h.Ands), len(alone.Ands))
	}
	// A few heads alone: then all is seen.
	m = &maker{}
	a, b = m.inputs(9), m.inputs(9)
	m.out(m.multiply(a, b)...)
	m.out(m.multiply(b, a)...)
	h = Graph(m.Graph)
	heads, words = everywhere(18)
	holdSame(t, &m.Graph, &h, heads, words)
	if pairs := alikeIn(&h, heads, words); len(pairs) > 0 {
		t.Errorf("the same: %v", pairs)
	}
	// Each gate a second time, in another order and inverted.
	g := grown(r, 200, 100, 3000, 600, 100)
	twice := doubled(r, g)
	alone, h = Graph(g), Graph(twice)
	if len(h.Ands) > len(alone.Ands)+len(alone.Ands)/50 {
		t.Errorf("%d gates, without doubles %d", len(h.Ands), len(alone.Ands))
	}
}

// doubled says all of a graph twice, the second time with gates on which nothing new hangs.
func doubled(r *rand.Rand, g api.Graph) api.Graph {
	first := 1 + g.Inputs + len(g.Latches)
	m := &maker{copyOf(g)}
	literals := make([]int, first+len(g.Ands))
	for v := range first {
		literals[v] = 2 * v
	}
	at := func(l int) int { return literals[l/2] ^ l%2 }
	for i, and := range g.Ands {
		p, q := at(and[0]), at(and[1])
		switch r.Intn(3) {
		case 0:
			literals[first+i] = m.and(p, m.and(p, q))
		case 1:
			literals[first+i] = m.and(m.or(p, q), m.and(q, p))
		default:
			literals[first+i] = m.and(q, m.or(q^1, p))
		}
	}
	for _, o := range g.Outputs {
		m.out(at(o))
	}
	return m.Graph
}

// TestLargest: graphs as large as may be; each call ends soon.
func TestLargest(t *testing.T) {
	r := rand.New(rand.NewSource(6))
	chain := &maker{}
	list := chain.inputs(29950)
	chain.out(chain.fold(list, chain.and), chain.fold(list[:20], chain.xor))
	long := &maker{}
	long.out(long.fold(long.inputs(14000), long.xor))
	product := &maker{}
	a, b := product.inputs(32), product.inputs(32)
	product.out(product.multiply(a, b)...)
	product.out(product.multiply(b[:4], a)...)
	for _, c := range []named{
		{"inputs alone", api.Graph{Inputs: 59999, Outputs: []int{119999}}},
		{"gates alone", api.Graph{Ands: make([][2]int, 59999), Outputs: []int{119999, 119998}}},
		{"anything", grown(r, 2000, 6000, 51999, 60000, 0)},
		{"of few heads", grown(r, 5, 7, 59987, 60000, 50)},
		{"of near ones", grown(r, 100, 100, 59799, 60000, 300)},
		{"a chain", chain.Graph},
		{"a long parity", long.Graph},
		{"products", product.Graph},
		{"one gate too many", grown(r, 40, 0, 301, 301, 30)},
	} {
		if !aig.Valid(c.g) {
			t.Fatal(c.name)
		}
		h := Graph(c.g)
		heads, words := anywhere(r, c.g.Inputs+len(c.g.Latches), 8)
		holdSame(t, &c.g, &h, heads, words)
	}
}

// TestSpent: where no work may be done any more, less is found, and nothing wrong.
func TestSpent(t *testing.T) {
	r := rand.New(rand.NewSource(7))
	kept := map[int]int{}
	for range 40 {
		g := woven(r, 10, 600)
		clean := aig.Clean(aig.Hash(g))
		for _, work := range []int{0, 20000, allWork} {
			l, numbers := levelled(&clean)
			s := newSweeper(l, patterns{blocks: 1, head: pattern.Some})
			s.budget = budget{work: work}
			s.sweep()
			h := aig.Clean(s.left(&clean, numbers))
			heads, words := everywhere(g.Inputs)
			holdSame(t, &g, &h, heads, words)
			kept[work] += len(h.Ands)
		}
	}
	if kept[0] <= kept[20000] || kept[20000] <= kept[allWork] {
		t.Errorf("gates that are left: %v", kept)
	}
}

// TestLeaders: where it is too hard to tell whether two gates are the same, a third one is still found to be the same as the second.
func TestLeaders(t *testing.T) {
	m := &maker{}
	a, b, c := m.inputs(16), m.inputs(16), m.inputs(2)
	x, y := m.multiply(a, b)[20], m.multiply(b, a)[20]
	m.out(x, y, m.and(y, m.or(y, c[0])), m.choice(c[1], y^1, y^1))
	clean := aig.Clean(aig.Hash(m.Graph))
	l, numbers := levelled(&clean)
	s := newSweeper(l, l.patternsOf())
	s.budget = budget{work: 1 << 22}
	s.sweep()
	h := s.left(&clean, numbers)
	if o := h.Outputs; s.isSpent() || o[0] == o[1] || o[1] != o[2] || o[1] != o[3]^1 {
		t.Errorf("the outputs are %v; %+v", o, s.budget)
	}
}

// TestWorkers: the answer does not hang on how many work at one time.
func TestWorkers(t *testing.T) {
	r := rand.New(rand.NewSource(8))
	graphs := []api.Graph{grown(r, 30, 30, 20000, 1000, 100), woven(r, 40, 3000), woven(r, 40, 300)}
	var alone []api.Graph
	before := runtime.GOMAXPROCS(1)
	for _, g := range graphs {
		alone = append(alone, Graph(g))
	}
	runtime.GOMAXPROCS(before)
	for i, g := range graphs {
		if h := Graph(g); !reflect.DeepEqual(h, alone[i]) {
			t.Errorf("graph %d: another answer", i)
		}
	}
}
