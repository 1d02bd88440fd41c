package aig

import (
	"math/rand"
	"reflect"
	"slices"
	"testing"

	"gatewright/api"
)

// grown makes a random graph that is valid. Few variables are near each other, so that much is alike.
func grown(r *rand.Rand, inputs, latches, ands, outputs int) api.Graph {
	g := api.Graph{Inputs: inputs}
	literal := func(variables int) int { return r.Intn(2 * variables) }
	for i := range ands {
		v := 1 + inputs + latches + i
		g.Ands = append(g.Ands, [2]int{literal(v), literal(v)})
	}
	all := 1 + inputs + latches + ands
	for range latches {
		g.Latches = append(g.Latches, api.Latch{Next: literal(all), Init: r.Intn(2) == 0})
	}
	for range outputs {
		g.Outputs = append(g.Outputs, literal(all))
	}
	return g
}

func copyOf(g api.Graph) api.Graph {
	g.Latches, g.Ands, g.Outputs = slices.Clone(g.Latches), slices.Clone(g.Ands), slices.Clone(g.Outputs)
	return g
}

// worthOf is what a literal is worth, from the definition alone: memory has what inputs and latches are worth, and gates that are known.
func worthOf(g *api.Graph, literal int, known map[int]bool) bool {
	v := literal / 2
	value, there := known[v]
	if !there && v > 0 {
		and := g.Ands[v-1-g.Inputs-len(g.Latches)]
		value = worthOf(g, and[0], known) && worthOf(g, and[1], known)
		known[v] = value
	}
	return value != (literal%2 == 1)
}

// at is what the outputs and the Nexts of a graph are worth where its inputs and latches spell a number.
func at(g *api.Graph, spelled uint64) []bool {
	known := make(map[int]bool)
	for i := range g.Inputs + len(g.Latches) {
		known[1+i] = spelled>>i&1 == 1
	}
	var all []bool
	for _, o := range g.Outputs {
		all = append(all, worthOf(g, o, known))
	}
	for _, l := range g.Latches {
		all = append(all, worthOf(g, l.Next, known))
	}
	return all
}

func TestValid(t *testing.T) {
	full := func() api.Graph {
		return api.Graph{Inputs: 2, Latches: []api.Latch{{Next: 11, Init: true}}, Ands: [][2]int{{7, 0}, {9, 1}}, Outputs: []int{0, 11}}
	}
	for _, c := range []struct {
		name  string
		spoil func(g *api.Graph)
		right bool
	}{
		{"as it is", func(g *api.Graph) {}, true},
		{"nothing", func(g *api.Graph) { *g = api.Graph{} }, true},
		{"inputs alone", func(g *api.Graph) { *g = api.Graph{Inputs: 59999} }, true},
		{"one input too many", func(g *api.Graph) { *g = api.Graph{Inputs: 60000} }, false},
		{"as many inputs as can be counted", func(g *api.Graph) { g.Inputs = 1<<63 - 1 }, false},
		{"fewer inputs than none", func(g *api.Graph) { g.Inputs = -1 }, false},
		{"fewer inputs than none, alone", func(g *api.Graph) { *g = api.Graph{Inputs: -1} }, false},
		{"far fewer", func(g *api.Graph) { g.Inputs = -1 << 63 }, false},
		{"as many variables as may be", func(g *api.Graph) { g.Inputs = 59996; g.Latches[0].Next = 1 }, true},
		{"one more", func(g *api.Graph) { g.Inputs = 59997; g.Latches[0].Next = 1 }, false},
		{"as many gates as may be", func(g *api.Graph) { *g = api.Graph{Ands: make([][2]int, 59999)} }, true},
		{"one gate too many", func(g *api.Graph) { *g = api.Graph{Ands: make([][2]int, 60000)} }, false},
		{"as many latches as may be", func(g *api.Graph) { *g = api.Graph{Latches: make([]api.Latch, 6000)} }, true},
		{"one latch too many", func(g *api.Graph) { *g = api.Graph{Latches: make([]api.Latch, 6001)} }, false},
		{"as many outputs as may be", func(g *api.Graph) { g.Outputs = make([]int, 60000) }, true},
		{"one output too many", func(g *api.Graph) { g.Outputs = make([]int, 60001) }, false},
		{"a gate on itself", func(g *api.Graph) { g.Ands[0][0] = 8 }, false},
		{"a gate on itself, inverted", func(g *api.Graph) { g.Ands[1][1] = 11 }, false},
		{"a gate on the one behind it", func(g *api.Graph) { g.Ands[0][1] = 10 }, false},
		{"a gate on less than 0", func(g *api.Graph) { g.Ands[1][0] = -1 }, false},
		{"a Next beyond all", func(g *api.Graph) { g.Latches[0].Next = 12 }, false},
		{"a Next below 0", func(g *api.Graph) { g.Latches[0].Next = -2 }, false},
		{"an output beyond all", func(g *api.Graph) { g.Outputs[0] = 12 }, false},
		{"an output below 0", func(g *api.Graph) { g.Outputs[1] = -1 }, false},
	} {
		g := full()
		c.spoil(&g)
		if Valid(g) != c.right {
			t.Errorf("%s: want %v", c.name, c.right)
		}
		if c.right {
			continue
		}
		if Run(g, [][]bool{{true}}) != nil || !reflect.DeepEqual(Hash(g), api.Graph{}) || !reflect.DeepEqual(Clean(g), api.Graph{}) {
			t.Errorf("%s: something comes of what is no graph", c.name)
		}
	}
}

// TestRun: against what the chapter says, cycle by cycle.
func TestRun(t *testing.T) {
	r := rand.New(rand.NewSource(1))
	for range 500 {
		g := grown(r, r.Intn(5), r.Intn(5), r.Intn(30), r.Intn(5))
		trace := make([][]bool, r.Intn(6))
		for i := range trace {
			for range r.Intn(8) {
				trace[i] = append(trace[i], r.Intn(2) == 0)
			}
		}
		old := copyOf(g)
		got := Run(g, trace)
		if len(got) != len(trace) || !reflect.DeepEqual(g, old) {
			t.Fatalf("%d rows of %d; %+v was %+v", len(got), len(trace), g, old)
		}
		state := uint64(0)
		for i, l := range g.Latches {
			if l.Init {
				state |= 1 << i
			}
		}
		for i, row := range trace {
			spelled := state << g.Inputs
			for k := range min(len(row), g.Inputs) {
				if row[k] {
					spelled |= 1 << k
				}
			}
			want := at(&g, spelled)
			if !slices.Equal(got[i], want[:len(g.Outputs)]) {
				t.Fatalf("cycle %d: %v, want %v: %+v at %v", i, got[i], want, g, trace)
			}
			state = 0
			for k, is := range want[len(g.Outputs):] {
				if is {
					state |= 1 << k
				}
			}
		}
	}
}

// sameShown looks whether two graphs have the same inputs, latches and outputs in number, and are worth the same everywhere (or, if that is too much, at many places).
func sameShown(t *testing.T, r *rand.Rand, g, h *api.Graph) {
	t.Helper()
	if !Valid(*h) || h.Inputs != g.Inputs || len(h.Latches) != len(g.Latches) || len(h.Outputs) != len(g.Outputs) || len(h.Ands) > len(g.Ands) {
		t.Fatalf("%+v of %+v", h, g)
	}
	for i := range g.Latches {
		if g.Latches[i].Init != h.Latches[i].Init {
			t.Fatalf("latch %d: %+v of %+v", i, h, g)
		}
	}
	bits := g.Inputs + len(g.Latches)
	for i := range uint64(min(256, 1<<bits)) {
		spelled := i
		if bits > 8 {
			spelled = r.Uint64()
		}
		if !slices.Equal(at(g, spelled), at(h, spelled)) {
			t.Fatalf("%v, want %v: %+v of %+v", at(h, spelled), at(g, spelled), h, g)
		}
	}
}

func isHashed(h *api.Graph) bool {
	seen := make(map[[2]int]bool)
	for _, and := range h.Ands {
		if and[1] < 2 || and[0] <= and[1] || and[0]/2 == and[1]/2 || seen[and] {
			return false
		}
		seen[and] = true
	}
	return true
}

func TestHash(t *testing.T) {
	r := rand.New(rand.NewSource(2))
	fewer := 0
	for range 3000 {
		g := grown(r, r.Intn(5), r.Intn(4), r.Intn(40), r.Intn(6))
		old := copyOf(g)
		h := Hash(g)
		sameShown(t, r, &g, &h)
		if !isHashed(&h) {
			t.Fatalf("%+v of %+v", h, g)
		}
		if len(h.Ands) < len(g.Ands) {
			fewer++
		}
		if again := Hash(h); !reflect.DeepEqual(again, h) {
			t.Fatalf("%+v, and again %+v", h, again)
		}
		spoil(&h)
		if !reflect.DeepEqual(g, old) {
			t.Fatalf("%+v was %+v", g, old)
		}
	}
	if fewer < 1000 {
		t.Errorf("only %d have fewer gates", fewer)
	}
}

// spoil overwrites all lists of a graph, and what lies behind them: nobody else may see it.
func spoil(g *api.Graph) {
	for i := range g.Latches {
		g.Latches[i].Next = -1
	}
	for i := range g.Ands {
		g.Ands[i] = [2]int{-1, -1}
	}
	for i := range g.Outputs {
		g.Outputs[i] = -1
	}
	_, _, _ = append(g.Latches, api.Latch{Next: -1}), append(g.Ands, [2]int{-1, -1}), append(g.Outputs, -1)
}

// TestHashByHand: gates that are known ahead, and what hangs on them.
func TestHashByHand(t *testing.T) {
	// The variables: inputs 1, 2; a latch 3; gates from 4 on.
	g := api.Graph{Inputs: 2, Latches: []api.Latch{{Next: 19}}, Ands: [][2]int{
		{2, 5},   // 4: a and not b
		{5, 2},   // 5: the same
		{8, 11},  // 6: a literal and its opposite
		{13, 6},  // 7: true and the latch
		{14, 9},  // 8: the latch and not 4
		{11, 6},  // 9: the same
		{16, 18}, // 10: the same literal twice
	}, Outputs: []int{8, 10, 12, 14, 20, 21}}
	h := Hash(g)
	want := api.Graph{Inputs: 2, Latches: []api.Latch{{Next: 11}}, Ands: [][2]int{{5, 2}, {9, 6}}, Outputs: []int{8, 8, 0, 6, 10, 11}}
	if !reflect.DeepEqual(h, want) {
		t.Errorf("%+v, want %+v", h, want)
	}
	if h := Hash(api.Graph{}); !reflect.DeepEqual(h, api.Graph{}) {
		t.Errorf("nothing gives %+v", h)
	}
}

// isNeeded tells the gates on which an output or a Next hangs.
func isNeeded(g *api.Graph) []bool {
	first := 1 + g.Inputs + len(g.Latches)
	is := make([]bool, first+len(g.Ands))
	for _, o := range g.Outputs {
		is[o/2] = true
	}
	for _, l := range g.Latches {
		is[l.Next/2] = true
	}
	for i := len(g.Ands) - 1; i >= 0; i-- {
		if is[first+i] {
			is[g.Ands[i][0]/2], is[g.Ands[i][1]/2] = true, true
		}
	}
	return is[first:]
}

func TestClean(t *testing.T) {
	r := rand.New(rand.NewSource(3))
	fewer := 0
	for range 3000 {
		g := grown(r, r.Intn(5), r.Intn(4), r.Intn(40), r.Intn(6))
		old := copyOf(g)
		h := Clean(g)
		sameShown(t, r, &g, &h)
		// What stays is what is needed, in the same order, with the literals that it had.
		first := 1 + g.Inputs + len(g.Latches)
		numbers := make(map[int]int)
		for v := range first {
			numbers[v] = v
		}
		var want [][2]int
		for i, is := range isNeeded(&g) {
			if is {
				numbers[first+i] = first + len(want)
				a, b := g.Ands[i][0], g.Ands[i][1]
				want = append(want, [2]int{2*numbers[a/2] + a%2, 2*numbers[b/2] + b%2})
			}
		}
		if !slices.Equal(h.Ands, want) {
			t.Fatalf("%+v, want %v: of %+v", h, want, g)
		}
		if len(h.Ands) < len(g.Ands) {
			fewer++
		}
		spoil(&h)
		if !reflect.DeepEqual(g, old) {
			t.Fatalf("%+v was %+v", g, old)
		}
	}
	if fewer < 1000 {
		t.Errorf("only %d have fewer gates", fewer)
	}
	if h := Clean(api.Graph{}); !reflect.DeepEqual(h, api.Graph{}) {
		t.Errorf("nothing gives %+v", h)
	}
}

// TestLargest: graphs as large as may be, deep and alike.
func TestLargest(t *testing.T) {
	r := rand.New(rand.NewSource(4))
	g := grown(r, 2000, 6000, 51999, 60000)
	h, c := Hash(g), Clean(g)
	sameShown(t, r, &g, &h)
	sameShown(t, r, &g, &c)
	deep := api.Graph{Inputs: 2, Latches: []api.Latch{{Next: 119999}}}
	for v := 4; v < 60000; v++ {
		deep.Ands = append(deep.Ands, [2]int{2*v - 1 - v%2, 2 + v%3*2})
	}
	deep.Outputs = []int{119998}
	h = Hash(Clean(deep))
	trace := make([][]bool, 20)
	for i := range trace {
		trace[i] = []bool{r.Intn(2) == 0, r.Intn(2) == 0}
	}
	if got, want := Run(h, trace), Run(deep, trace); !isHashed(&h) || !reflect.DeepEqual(got, want) {
		t.Errorf("%v, want %v", got, want)
	}
}
