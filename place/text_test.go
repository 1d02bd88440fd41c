package place

import (
	"math/rand"
	"slices"
	"testing"

	"gatewright/aig"
	"gatewright/api"
	"gatewright/elab"
	"gatewright/lut"
	"gatewright/parse"
	"gatewright/sim"
	"gatewright/sweep"
	"gatewright/word"
)

// built gives the design, the netlist and the graph of a text's module m.
func built(t *testing.T, text string) (api.Design, api.Netlist, api.Graph) {
	t.Helper()
	ms, err := parse.Text(text)
	if err != nil {
		t.Fatal(err, text)
	}
	d, err := elab.Design(ms, "m")
	if err != nil {
		t.Fatal(err, text)
	}
	n, err := word.Lower(d)
	if err != nil {
		t.Fatal(err, text)
	}
	g, err := aig.Blast(n)
	if err != nil {
		t.Fatal(err, text)
	}
	return d, n, g
}

// spelled gives words as bits, the lowest first.
func spelled(row []uint64, widths []int) []bool {
	bits := []bool{}
	for i, width := range widths {
		for k := range width {
			bits = append(bits, row[i]>>k&1 == 1)
		}
	}
	return bits
}

// texts are such that their graphs, swept, must fit by the last words of chapter 14.
func texts() []string {
	return []string{
		"module m #(W = 4) (input [W - 1:0] a, input en, output [W - 1:0] q, output odd); reg [W - 1:0] r = 5; assign q = r + (en ? a : 1); assign odd = ^r; always @clk if (en) r <= r + a; endmodule",
		"module m (input [3:0] a, input [3:0] b, output [3:0] p, output l); assign p = a * b; assign l = a < b; endmodule",
		"module m (input [1:0] i, input v, input w, output q); reg [1:0] k [0:3]; assign q = ^k[i]; always @clk if (w) k[i] <= {k[i + 1], v}; endmodule",
		"module m (input [7:0] s, output [7:0] q, output z); reg [7:0] x = 77; assign q = ~x; assign z = ~&x; always @clk x <= {x[6:0], ^x} ^ s; endmodule",
		"module m (input a, output [2:0] q); reg [2:0] r = 3; assign q = ~r; always @clk r <= {~r[1:0], ~a}; endmodule",
		"module m (output [31:0] q, output [31:0] p); reg [31:0] r = 3; assign q = r; assign p = ~r; always @clk r <= ~r; endmodule",
		"module m (input [31:0] a, output [31:0] q, output p); reg [31:0] r; assign q = ~r; assign p = &(r ^ a); always @clk r <= ~a; endmodule",
	}
}

// boundOf is a shape on which by the last words of chapter 14 a graph must fit.
func boundOf(g api.Graph, depth int) api.Shape {
	return api.Shape{
		Inputs:  g.Inputs,
		Outputs: len(g.Outputs),
		Regs:    len(g.Latches),
		Rows:    g.Inputs + len(g.Latches) + 3*len(g.Ands) + len(g.Outputs),
		Cols:    max(1, depth),
	}
}

// TestTexts: what texts mean, fabrics show.
func TestTexts(t *testing.T) {
	r := rand.New(rand.NewSource(21))
	for _, text := range texts() {
		d, n, g := built(t, text)
		var outputs []int
		for _, o := range n.Outputs {
			outputs = append(outputs, n.Nodes[o].Width)
		}
		var trace [][]uint64
		var bits [][]bool
		for range 50 {
			var row []uint64
			for _, width := range n.Inputs {
				row = append(row, r.Uint64()>>(64-width))
			}
			trace = append(trace, row)
			bits = append(bits, spelled(row, n.Inputs))
		}
		rows, err := sim.Run(d, trace, nil)
		if err != nil {
			t.Fatal(err, text)
		}
		swept := sweep.Graph(g)
		net := lut.Map(swept)
		s := boundOf(swept, lut.Depth(net))
		for _, cols := range []int{s.Cols, s.Cols + 1, 100} {
			s.Cols = cols
			for i, got := range played(holdFit(t, r, net, s), bits) {
				if want := spelled(rows[i], outputs); !slices.Equal(got, want) {
					t.Fatalf("%s: cycle %d: %v, want %v", text, i, got, want)
				}
			}
		}
	}
}

// TestGraphs: the same bound, of graphs whose outputs and latches take much both ways.
func TestGraphs(t *testing.T) {
	r := rand.New(rand.NewSource(22))
	for range 400 {
		g := api.Graph{Inputs: r.Intn(20)}
		latches, ands := r.Intn(40), r.Intn(40)
		for i := range ands {
			ahead := 2 * (1 + g.Inputs + latches + i)
			g.Ands = append(g.Ands, [2]int{r.Intn(ahead), r.Intn(ahead)})
		}
		all := 2 * (1 + g.Inputs + latches + ands)
		for range latches {
			g.Latches = append(g.Latches, api.Latch{Next: r.Intn(all), Init: r.Intn(2) == 0})
		}
		for range r.Intn(60) {
			g.Outputs = append(g.Outputs, r.Intn(all))
		}
		swept := sweep.Graph(g)
		net := lut.Map(swept)
		s := boundOf(swept, lut.Depth(net))
		if s.Rows = max(1, s.Rows); s.Rows <= 500 {
			holdFit(t, r, net, s)
			s.Cols = 100
			holdFit(t, r, net, s)
		}
	}
}
