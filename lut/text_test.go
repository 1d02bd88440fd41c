package lut

import (
	"math/rand"
	"reflect"
	"testing"

	"gatewright/aig"
	"gatewright/aiger"
	"gatewright/api"
	"gatewright/elab"
	"gatewright/parse"
	"gatewright/sim"
	"gatewright/sweep"
	"gatewright/word"
)

// built gives the design and the netlist of a text's module m.
func built(t *testing.T, text string) (api.Design, api.Netlist, api.Graph) {
	t.Helper()
	ms, err := parse.Text(text)
	if err != nil {
		t.Fatal(err, text)
	}
	d, err := elab.Design(ms, "m")
	if err != nil {
		t.Fatal(err, text)
	}
	n, err := word.Lower(d)
	if err != nil {
		t.Fatal(err, text)
	}
	g, err := aig.Blast(n)
	if err != nil {
		t.Fatal(err, text)
	}
	return d, n, g
}

// spelled gives words as bits, the lowest first.
func spelled(row []uint64, widths []int) []bool {
	bits := []bool{}
	for i, width := range widths {
		for k := range width {
			bits = append(bits, row[i]>>k&1 == 1)
		}
	}
	return bits
}

// TestTexts: what texts mean, their graphs show when they have been hashed, cleaned, written, read, swept and mapped.
func TestTexts(t *testing.T) {
	r := rand.New(rand.NewSource(21))
	for _, text := range []string{
		"module m #(W = 4) (input [W - 1:0] a, input en, output [W - 1:0] q, output odd); reg [W - 1:0] r = 5; assign q = r + (en ? a : 1); assign odd = ^r; always @clk if (en) r <= r + a; endmodule",
		"module m (input [7:0] a, input [7:0] b, output [7:0] p, output l, output e); assign p = a * b; assign l = a < b; assign e = ~(b <= a); endmodule",
		"module m (input [3:0] i, input [7:0] v, input w, output [7:0] q, output [7:0] n); reg [7:0] k [0:10]; assign q = k[i]; assign n = k[i + 1] >> i; always @clk begin if (w) k[i] <= v; if (v[0]) k[v] <= ~v; end endmodule",
		"module m (input [31:0] s, output reg [31:0] q); reg [31:0] x = 77; always @* begin q = x; if (s[0]) q[s[5:1]] = s[6]; end always @clk x <= {x[30:0], ^x} ^ s; endmodule",
		"module m (input a, output [2:0] q); reg [2:0] r = 3; assign q = ~r; always @clk r <= {~r[1:0], ~a}; endmodule",
	} {
		d, n, g := built(t, text)
		var outputs []int
		for _, o := range n.Outputs {
			outputs = append(outputs, n.Nodes[o].Width)
		}
		var trace [][]uint64
		var bits [][]bool
		for range 60 {
			var row []uint64
			for _, width := range n.Inputs {
				row = append(row, r.Uint64()>>(64-width))
			}
			trace = append(trace, row)
			bits = append(bits, spelled(row, n.Inputs))
		}
		rows, err := sim.Run(d, trace, nil)
		if err != nil {
			t.Fatal(err, text)
		}
		read, err := aiger.Unpack(aiger.Pack(aig.Clean(aig.Hash(g))))
		if err != nil {
			t.Fatal(err, text)
		}
		swept := sweep.Graph(read)
		for _, h := range []api.Graph{g, read, swept} {
			net := holdMapped(t, r, h, leastDepth(&h, depthsByFlow(&h)), 100)
			for i, got := range Run(net, bits) {
				if want := spelled(rows[i], outputs); !reflect.DeepEqual(got, want) {
					t.Fatalf("%s: cycle %d: %v, want %v", text, i, got, want)
				}
			}
		}
	}
}

// TestSum: the document's example.
func TestSum(t *testing.T) {
	_, _, g := built(t, "module m (input [3:0] a, input [3:0] b, output [3:0] q); assign q = a + b; endmodule")
	if depth := Depth(Map(g)); depth > 4 {
		t.Errorf("the sum of two words of four bits: depth %d", depth)
	}
}
