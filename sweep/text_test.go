package sweep

import (
	"math/rand"
	"reflect"
	"testing"

	"gatewright/aig"
	"gatewright/aiger"
	"gatewright/elab"
	"gatewright/parse"
	"gatewright/sim"
	"gatewright/word"
)

// bitsOf spells words, the lowest bit first.
func bitsOf(row []uint64, widths []int) []bool {
	bits := []bool{}
	for i, width := range widths {
		for k := range width {
			bits = append(bits, row[i]>>k&1 == 1)
		}
	}
	return bits
}

// TestTexts: what texts mean, their graphs show when they have been hashed, cleaned, written, read and swept.
func TestTexts(t *testing.T) {
	r := rand.New(rand.NewSource(21))
	for _, text := range []string{
		"module m #(W = 4) (input [W - 1:0] a, input en, output [W - 1:0] q, output odd); reg [W - 1:0] r = 5; assign q = r + (en ? a : 1); assign odd = ^r; always @clk if (en) r <= r + a; endmodule",
		"module m (input [7:0] a, input [7:0] b, output [7:0] p, output [7:0] n, output l, output e); assign p = a * b; assign n = b * a; assign l = a < b; assign e = ~(b <= a); endmodule",
		"module m (input [3:0] i, input [7:0] v, input w, output [7:0] q, output [7:0] n); reg [7:0] k [0:10]; assign q = k[i]; assign n = k[i + 1] >> i; always @clk begin if (w) k[i] <= v; if (v[0]) k[v] <= ~v; end endmodule",
		"module m (input [31:0] s, output reg [31:0] q); reg [31:0] x = 77; always @* begin q = x; if (s[0]) q[s[5:1]] = s[6]; end always @clk x <= {x[30:0], ^x} ^ s; endmodule",
		"module m (input [15:0] a, input [15:0] b, input [15:0] c, output [15:0] p, output [15:0] q); assign p = a + b - c; assign q = a - (c - b); endmodule",
	} {
		ms, err := parse.Text(text)
		if err != nil {
			t.Fatal(err, text)
		}
		d, err := elab.Design(ms, "m")
		if err != nil {
			t.Fatal(err, text)
		}
		n, err := word.Lower(d)
		if err != nil {
			t.Fatal(err, text)
		}
		g, err := aig.Blast(n)
		if err != nil {
			t.Fatal(err, text)
		}
		read, err := aiger.Unpack(aiger.Pack(aig.Clean(aig.Hash(g))))
		if err != nil {
			t.Fatal(err, text)
		}
		var outputs []int
		for _, o := range n.Outputs {
			outputs = append(outputs, n.Nodes[o].Width)
		}
		var trace [][]uint64
		var bits [][]bool
		for range 60 {
			var row []uint64
			for _, width := range n.Inputs {
				row = append(row, r.Uint64()>>(64-width))
			}
			trace = append(trace, row)
			bits = append(bits, bitsOf(row, n.Inputs))
		}
		rows, err := sim.Run(d, trace, nil)
		if err != nil {
			t.Fatal(err, text)
		}
		h := Graph(read)
		holdShape(t, &read, &h)
		for i, got := range aig.Run(h, bits) {
			if want := bitsOf(rows[i], outputs); !reflect.DeepEqual(got, want) {
				t.Fatalf("%s: cycle %d: %v, want %v", text, i, got, want)
			}
		}
	}
}
