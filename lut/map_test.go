package lut

import (
	"math/rand"
	"reflect"
	"testing"

	"gatewright/aig"
	"gatewright/api"
)

// TestEdges: graphs of which it is told what they become.
func TestEdges(t *testing.T) {
	r := rand.New(rand.NewSource(1))
	for _, c := range []struct {
		name  string
		graph api.Graph
		depth int
	}{
		{"nothing", api.Graph{}, 0},
		{"constants", api.Graph{Outputs: []int{0, 1, 1, 0}}, 0},
		{"inputs alone", api.Graph{Inputs: 3}, 0},
		{"an input, twice", api.Graph{Inputs: 2, Outputs: []int{4, 2, 4}}, 0},
		{"an input and its opposite", api.Graph{Inputs: 1, Outputs: []int{2, 3, 3}}, 1},
		{"latches that change places", api.Graph{Latches: []api.Latch{{Next: 4, Init: true}, {Next: 2}}, Outputs: []int{2, 4}}, 0},
		{"a latch that turns", api.Graph{Latches: []api.Latch{{Next: 3, Init: true}}, Outputs: []int{2}}, 1},
		{"a latch that turns, alone", api.Graph{Latches: []api.Latch{{Next: 3}}}, 1},
		{"a latch that is never set again", api.Graph{Latches: []api.Latch{{Next: 0, Init: true}, {Next: 1}}, Outputs: []int{2, 4}}, 0},
		{"the opposite of a latch at an output", api.Graph{Inputs: 1, Latches: []api.Latch{{Next: 2}}, Outputs: []int{5}}, 1},
		{"a gate that nobody needs", api.Graph{Inputs: 2, Ands: [][2]int{{2, 4}}, Outputs: []int{2}}, 0},
		{"a gate", api.Graph{Inputs: 2, Ands: [][2]int{{2, 5}}, Outputs: []int{6}}, 1},
		{"its opposite", api.Graph{Inputs: 2, Ands: [][2]int{{2, 5}}, Outputs: []int{7}}, 1},
		{"both", api.Graph{Inputs: 2, Ands: [][2]int{{2, 5}}, Outputs: []int{7, 6, 7}}, 1},
		{"a gate at a latch", api.Graph{Inputs: 1, Latches: []api.Latch{{Next: 7, Init: true}}, Ands: [][2]int{{2, 5}}, Outputs: []int{4}}, 1},
		{"a gate of false", api.Graph{Inputs: 1, Ands: [][2]int{{0, 2}}, Outputs: []int{4, 5}}, 1},
		{"a gate of true", api.Graph{Inputs: 1, Ands: [][2]int{{1, 2}}, Outputs: []int{4, 5}}, 1},
		{"gates of constants", api.Graph{Ands: [][2]int{{0, 0}, {1, 1}, {2, 5}}, Outputs: []int{2, 3, 4, 5, 6, 7}}, 1},
		{"a literal twice", api.Graph{Inputs: 1, Ands: [][2]int{{3, 3}}, Outputs: []int{4, 5}}, 1},
		{"a literal and its opposite", api.Graph{Inputs: 1, Ands: [][2]int{{2, 3}}, Outputs: []int{4, 5}}, 1},
		{"a gate and its opposite", api.Graph{Inputs: 2, Ands: [][2]int{{2, 4}, {6, 7}}, Outputs: []int{8, 9}}, 1},
		{"what is never true", api.Graph{Inputs: 2, Ands: [][2]int{{2, 4}, {2, 5}, {6, 8}}, Outputs: []int{10, 11}}, 1},
		{"an input in another way", api.Graph{Inputs: 2, Ands: [][2]int{{2, 4}, {2, 5}, {7, 9}}, Outputs: []int{10, 11}}, 1},
		{"true counts as no leaf", api.Graph{Inputs: 4, Ands: [][2]int{{2, 1}, {4, 1}, {6, 8}, {10, 12}, {14, 16}}, Outputs: []int{18}}, 1},
	} {
		n := holdMapped(t, r, c.graph, c.depth, 64)
		if trace := rowsOf(r, c.graph.Inputs, 9); !reflect.DeepEqual(Run(n, trace), aig.Run(c.graph, trace)) {
			t.Errorf("%s: it shows something else: %+v", c.name, n)
		}
		if got := leastDepth(&c.graph, depthsByCuts(&c.graph)); got != c.depth {
			t.Errorf("%s: least depth %d, want %d", c.name, got, c.depth)
		}
	}
}

func TestChains(t *testing.T) {
	r := rand.New(rand.NewSource(2))
	for inputs := 2; inputs < 40; inputs++ {
		// The first table takes four inputs, each one behind it three more.
		n := holdMapped(t, r, chain(inputs), 1+(inputs-2)/3, 256)
		if got := Depth(n); got != 1+(inputs-2)/3 {
			t.Errorf("the and of %d inputs: depth %d", inputs, got)
		}
	}
}

func TestInvalid(t *testing.T) {
	for _, g := range []api.Graph{
		{Inputs: -1},
		{Inputs: 60000},
		{Outputs: []int{2}},
		{Outputs: []int{-1}},
		{Inputs: 1, Ands: [][2]int{{4, 2}}},
		{Inputs: 1, Ands: [][2]int{{2, -2}}},
		{Latches: []api.Latch{{Next: 4}}},
		{Latches: make([]api.Latch, 6001)},
		{Outputs: make([]int, 60001)},
	} {
		if n := Map(g); !reflect.DeepEqual(n, api.Tables{}) {
			t.Errorf("something comes of what is no graph: %+v", n)
		}
	}
}

// TestSmall: at all that inputs and latches can be worth, and against all cuts.
func TestSmall(t *testing.T) {
	r := rand.New(rand.NewSource(3))
	for range 3000 {
		g := grown(r, r.Intn(6), r.Intn(4), r.Intn(18), r.Intn(5), r.Intn(10))
		holdMapped(t, r, g, leastDepth(&g, depthsByCuts(&g)), 256)
	}
	for range 300 {
		g := band(r, 3+r.Intn(5), 8+r.Intn(10), r.Intn(waysOn))
		holdMapped(t, r, g, leastDepth(&g, depthsByCuts(&g)), 128)
	}
}

// TestMiddle: against ways that have nothing in common.
func TestMiddle(t *testing.T) {
	r := rand.New(rand.NewSource(4))
	for range 40 {
		g := grown(r, 5+r.Intn(40), r.Intn(9), 200, 1+r.Intn(9), 30*r.Intn(4))
		holdMapped(t, r, g, leastDepth(&g, depthsByFlow(&g)), 200)
	}
	for way := range waysOn {
		for width := 3; width < 13; width++ {
			g := band(r, width, 150, way)
			holdMapped(t, r, g, leastDepth(&g, depthsByFlow(&g)), 200)
		}
	}
}

// TestTraces: the traces of graphs that are hashed, cleaned and mapped.
func TestTraces(t *testing.T) {
	r := rand.New(rand.NewSource(5))
	for range 500 {
		g := grown(r, r.Intn(6), 1+r.Intn(8), r.Intn(60), 1+r.Intn(5), r.Intn(20))
		trace := rowsOf(r, g.Inputs, 20)
		want := aig.Run(g, trace)
		for _, h := range []api.Graph{g, aig.Hash(g), aig.Clean(g)} {
			if got := Run(Map(h), trace); !reflect.DeepEqual(got, want) {
				t.Fatalf("%v, want %v: %+v", got, want, h)
			}
		}
	}
}

// TestFull: as many variables as a graph may have.
func TestFull(t *testing.T) {
	r := rand.New(rand.NewSource(6))
	for way := range waysOn {
		for _, width := range []int{3, 4, 5, 6, 9, 40} {
			g := band(r, width, 59999-width, way)
			n := Map(g)
			trace := spelledRows(r, width, 32)
			if !Valid(n) || !reflect.DeepEqual(Run(n, trace), aig.Run(g, trace)) {
				t.Fatalf("way %d, width %d: it shows something else", way, width)
			}
			if width <= 4 && Depth(n) != 1 {
				t.Errorf("way %d: depth %d of so many inputs: %d", way, Depth(n), width)
			}
		}
	}
	for _, near := range []int{0, 300, 3000} {
		g := grown(r, 3000, 6000, 50999, 60000, near)
		n := Map(g)
		trace := spelledRows(r, g.Inputs, 6)
		if !Valid(n) || !reflect.DeepEqual(Run(n, trace), aig.Run(g, trace)) {
			t.Fatalf("near %d: it shows something else", near)
		}
	}
	if n := Map(chain(30000)); !Valid(n) || Depth(n) != 1+29998/3 {
		t.Errorf("a long chain: depth %d", Depth(n))
	}
	if n := Map(api.Graph{Ands: make([][2]int, 59999), Outputs: []int{119998, 119999}}); !Valid(n) || Depth(n) > 1 {
		t.Errorf("a graph without inputs: depth %d", Depth(n))
	}
	if n := Map(api.Graph{Inputs: 59999, Outputs: []int{119998, 119999}}); !Valid(n) || Depth(n) != 1 {
		t.Errorf("inputs alone: depth %d", Depth(n))
	}
}

// TestMemory: an answer shares nothing with another one, and its lists nothing with each other.
func TestMemory(t *testing.T) {
	r := rand.New(rand.NewSource(7))
	for range 100 {
		g := grown(r, 4, 3, 40, 5, 0)
		one, other := Map(g), Map(g)
		want := netCopy(one)
		if !reflect.DeepEqual(one, other) {
			t.Fatalf("%+v and %+v of %+v", one, other, g)
		}
		for i := range one.Tables {
			for k := range one.Tables[i].Ins {
				one.Tables[i].Ins[k] = -1
			}
			one.Tables[i].Ins = append(one.Tables[i].Ins, -1, -1, -1, -1)
			if i+1 < len(one.Tables) && !reflect.DeepEqual(one.Tables[i+1], want.Tables[i+1]) {
				t.Fatal("two tables share memory")
			}
		}
		if !reflect.DeepEqual(other, want) {
			t.Fatal("two answers share memory")
		}
	}
}

// TestFew: how many tables come of graphs. (The chapter asks for no number, but a fabric has few cells.)
func TestFew(t *testing.T) {
	for _, c := range []struct {
		name  string
		graph api.Graph
		most  int
	}{
		{"constants, an input and a latch", api.Graph{Inputs: 1, Latches: []api.Latch{{Next: 2}}, Outputs: []int{0, 1, 2, 4}}, 0},
		{"an input inverted, thrice", api.Graph{Inputs: 1, Latches: []api.Latch{{Next: 3}}, Outputs: []int{3, 3}}, 1},
		{"a gate inverted", api.Graph{Inputs: 2, Ands: [][2]int{{2, 4}}, Outputs: []int{7, 7}}, 1},
		{"a gate both ways", api.Graph{Inputs: 2, Ands: [][2]int{{2, 4}}, Outputs: []int{6, 7, 6, 7}}, 2},
		{"a gate twice", api.Graph{Inputs: 2, Ands: [][2]int{{2, 4}, {4, 2}}, Outputs: []int{6, 8}}, 1},
		{"a gate that nobody needs", api.Graph{Inputs: 2, Ands: [][2]int{{2, 4}, {6, 5}}, Outputs: []int{6}}, 1},
		{"what hangs on one input alone", api.Graph{Inputs: 5, Ands: [][2]int{{4, 6}, {8, 10}, {12, 14}, {2, 16}, {2, 17}, {19, 21}}, Outputs: []int{22}}, 1},
		{"the and of sixteen", chain(16), 6},
	} {
		if n := Map(c.graph); len(n.Tables) > c.most {
			t.Errorf("%s: %d tables: %+v", c.name, len(n.Tables), n)
		}
	}
	for _, c := range []struct {
		text string
		most int
	}{
		{"module m (input [31:0] a, input [31:0] b, input [4:0] c, output [31:0] p, output [31:0] q); assign p = a << c; assign q = (a + b) >> c; endmodule", 410},
		{"module m (input [3:0] i, input [7:0] v, input w, output [7:0] q); reg [7:0] k [0:10]; assign q = k[i]; always @clk begin if (w) k[i] <= v; if (v[0]) k[v] <= ~v; end endmodule", 200},
	} {
		_, _, g := built(t, c.text)
		if n := Map(g); len(n.Tables) > c.most {
			t.Errorf("%s: %d tables of %d gates", c.text, len(n.Tables), len(g.Ands))
		}
	}
}
