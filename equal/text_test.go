package equal

import (
	"slices"
	"testing"

	"gatewright/aig"
	"gatewright/api"
	"gatewright/elab"
	"gatewright/parse"
	"gatewright/sim"
	"gatewright/word"
)

// built is a module of a text, as a design and as a graph.
type built struct {
	design api.Design
	widths []int // of the inputs
	graph  api.Graph
}

func build(t *testing.T, text, module string) built {
	t.Helper()
	ms, err := parse.Text(text)
	if err != nil {
		t.Fatal(err, text)
	}
	d, err := elab.Design(ms, module)
	if err != nil {
		t.Fatal(err, text)
	}
	n, err := word.Lower(d)
	if err != nil {
		t.Fatal(err, text)
	}
	g, err := aig.Blast(n)
	if err != nil {
		t.Fatal(err, text)
	}
	return built{d, n.Inputs, g}
}

// rows tells what a design shows at the bits of a trace.
func (b *built) rows(t *testing.T, trace [][]bool) [][]uint64 {
	t.Helper()
	var words [][]uint64
	for _, bits := range trace {
		var row []uint64
		for _, width := range b.widths {
			var x uint64
			for k := range width {
				if bits[k] {
					x |= 1 << k
				}
			}
			row = append(row, x)
			bits = bits[width:]
		}
		words = append(words, row)
	}
	rows, err := sim.Run(b.design, words, nil)
	if err != nil {
		t.Fatal(err)
	}
	return rows
}

// TestTexts: two modules of a text, told to be the same or to part; then they do, as the text means it.
func TestTexts(t *testing.T) {
	for _, c := range []struct {
		text         string
		kind, cycles int
	}{
		{"module a (input [3:0] x, input en, output [3:0] q); reg [3:0] r = 5; assign q = r + (en ? x : 1); always @clk if (en) r <= r + x; endmodule " +
			"module b (input [3:0] x, input en, output [3:0] q); reg [3:0] r = 5; assign q = en ? x + r : r - 15; always @clk r <= en ? x + r : r; endmodule", api.VSame, 0},
		{"module a (input [7:0] x, input [7:0] y, output [7:0] q, output l); assign q = x - y; assign l = x < y; endmodule " +
			"module b (input [7:0] x, input [7:0] y, output [7:0] q, output l); assign q = x + ~y + 1; assign l = ~(y <= x); endmodule", api.VSame, 0},
		{"module a (input [5:0] x, input [5:0] y, output [5:0] q); assign q = x * y; endmodule " +
			"module b (input [5:0] x, input [5:0] y, output [5:0] q); assign q = y * x; endmodule", api.VSame, 0},
		{"module a (input [31:0] x, output p); assign p = ^x; endmodule " +
			"module b (input [31:0] x, output p); reg n; assign p = n; always @* begin n = 0; for (i = 0; i < 32; i = i + 1) n = n ^ x[i]; end endmodule", api.VSame, 0},
		{"module a (input x, output q); reg [5:0] n; assign q = n == 40; always @clk if (x) n <= n + 1; endmodule " +
			"module b (input x, output q); reg [5:0] n = 63; assign q = n == 23; always @clk if (x) n <= n - 1; endmodule", api.VSame, 0},
		{"module a (input x, output q); reg [5:0] n; assign q = n == 40; always @clk if (x) n <= n + 1; endmodule " +
			"module b (input x, output q); reg [5:0] n = 63; assign q = n == 24; always @clk if (x) n <= n - 1; endmodule", api.VDiffer, 40},
		{"module a (input [1:0] i, input [1:0] k, input w, input [3:0] v, output [3:0] q); reg [3:0] m [0:3]; assign q = m[i]; always @clk if (w) m[k] <= v; endmodule " +
			"module b (input [1:0] i, input [1:0] k, input w, input [3:0] v, output [3:0] q); reg [3:0] m [0:3]; assign q = m[i]; always @clk if (w & (v != 9)) m[k] <= v; endmodule", api.VDiffer, 2},
		{"module a (input [3:0] x, output [3:0] q); reg [3:0] r; assign q = r; always @clk r <= x + 3; endmodule " +
			"module b (input [3:0] x, output [3:0] q); reg [3:0] r = 13; assign q = r + 3; always @clk r <= x; endmodule", api.VSame, 0},
		{"module a (input [3:0] x, output [3:0] q); reg [3:0] r; assign q = r; always @clk r <= x + 3; endmodule " +
			"module b (input [3:0] x, output [3:0] q); reg [3:0] r = 12; assign q = r + 3; always @clk r <= x; endmodule", api.VDiffer, 1},
	} {
		a, b := build(t, c.text, "a"), build(t, c.text, "b")
		if j := join(a.graph, b.graph); !j.isWhole() {
			t.Errorf("too large: %s", c.text)
		}
		v := Check(a.graph, b.graph, 50)
		holdVerdict(t, a.graph, b.graph, 50, v)
		if v.Kind != c.kind || len(v.Trace) != c.cycles {
			t.Errorf("kind %d, %d cycles: %s", v.Kind, len(v.Trace), c.text)
		}
		one, other := a.rows(t, v.Trace), b.rows(t, v.Trace)
		for i := range v.Trace {
			if slices.Equal(one[i], other[i]) != (i < len(v.Trace)-1) {
				t.Errorf("cycle %d: %v and %v: %s", i, one[i], other[i], c.text)
			}
		}
		if v := Check(a.graph, b.graph, c.cycles-1); v.Kind == api.VDiffer {
			t.Errorf("one cycle less: %+v: %s", v, c.text)
		}
	}
}
