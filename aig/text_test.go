package aig

import (
	"math/rand"
	"reflect"
	"testing"

	"gatewright/api"
	"gatewright/elab"
	"gatewright/parse"
	"gatewright/sim"
	"gatewright/word"
)

// TestTexts: what texts mean, their graphs show, hashed and cleaned, too.
func TestTexts(t *testing.T) {
	w := &weaver{Rand: rand.New(rand.NewSource(9))}
	for _, text := range []string{
		"module m #(W = 4) (input [W - 1:0] a, input en, output [W - 1:0] q, output odd); reg [W - 1:0] r = 5; assign q = r + (en ? a : 1); assign odd = ^r; always @clk if (en) r <= r + a; endmodule",
		"module m (input [7:0] a, input [7:0] b, output [7:0] p, output [7:0] d, output l, output e); assign p = a * b; assign d = a - b; assign l = a < b; assign e = (a << 1) == b; endmodule",
		"module m (input [3:0] i, input [7:0] v, input w, output [7:0] q, output [7:0] n); reg [7:0] k [0:10]; assign q = k[i]; assign n = k[i + 1] >> i; always @clk begin if (w) k[i] <= v; if (v[0]) k[v] <= ~v; end endmodule",
		"module m (input [31:0] s, output reg [31:0] q); reg [31:0] x = 77; always @* begin q = x; if (s[0]) q[s[5:1]] = s[6]; end always @clk x <= {x[30:0], ^x} ^ s; endmodule",
		"module m (input a, output q); wire [4:0] c; assign c[0] = a; for (g = 0; g < 4; g = g + 1) begin : n assign c[g + 1] = ~c[g]; end assign q = c[4]; endmodule",
	} {
		ms, err := parse.Text(text)
		if err != nil {
			t.Fatal(err, text)
		}
		d, err := elab.Design(ms, "m")
		if err != nil {
			t.Fatal(err, text)
		}
		n, err := word.Lower(d)
		if err != nil {
			t.Fatal(err, text)
		}
		trace := w.trace(n.Inputs, 40)
		g := blast(t, text, n, trace)
		var bits [][]bool
		for _, row := range trace {
			bits = append(bits, bitsOf(row, n.Inputs))
		}
		rows, err := sim.Run(d, trace, nil)
		if err != nil {
			t.Fatal(err, text)
		}
		for name, h := range map[string]api.Graph{"as it is": g, "hashed": Hash(g), "cleaned": Clean(g), "both": Clean(Hash(g))} {
			for i, got := range Run(h, bits) {
				if want := bitsOf(rows[i], outputWidths(&n)); !reflect.DeepEqual(got, want) {
					t.Fatalf("%s, %s: cycle %d: %v, want %v", text, name, i, got, want)
				}
			}
		}
	}
}
