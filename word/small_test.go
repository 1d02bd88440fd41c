package word

import (
	"math/rand"
	"testing"

	"gatewright/api"
)

// TestSmall: what needs few nodes has few. Counted are those that are no inputs, registers, numbers, parts or joints.
func TestSmall(t *testing.T) {
	for _, c := range []struct {
		text string
		most int
	}{
		{"always @* if (c) q = a; else q = b;", 1},
		{"always @clk if (c) q <= a; else q <= b;", 1},
		{"always @* begin q = 0; if (c) q = a; else q = b; end", 1},
		{"always @clk begin q <= 5; if (c) q <= a; else q <= b; end", 1},
		{"always @clk begin if (d) q <= 5; if (c) q <= a; else q <= b; end", 1},
		{"always @clk if (c) q <= a;", 1},
		// Both branches read what was there ahead of them.
		{"always @* begin q = a; if (c) q = q + b; else q = q - b; end", 3},
		{"always @* begin q = a; if (d) q = b; if (c) q = q + b; else q = q - b; end", 4},
		{"always @* begin q = a; if (d) q = b; if (c) q = 9; else q = q - b; end", 3},
		// A branch reads what it has set.
		{"reg [7:0] t; always @clk if (c) begin t = a + b; q <= t * 3; end", 3},
		{"reg [7:0] t; always @clk if (c) begin t = a + b; if (d) q <= t * 3; end", 4},
		// What is undone in the same branch costs nothing.
		{"always @clk if (c) begin if (d) q <= a * b; q <= b; end", 1},
		// A case that is complete: a comparison and a choice for each arm.
		{"always @* case (a) 1: q = b; 2: q = 7; 3: q = 8; 4: q = 9; default: q = 0; endcase", 8},
		{"always @clk case (a) 1: q <= b; 2: q <= 7; 3: q <= 8; 4: q <= 9; default: q <= 0; endcase", 8},
		// Parts of a word that are set together are chosen together.
		{"always @* begin q = a; if (c) begin q[3:0] = b[7:4]; q[7:4] = b[3:0]; end end", 1},
		{"always @* begin q = a; if (c) q[3:0] = b; if (d) q[7:4] = b; end", 2},
		{"always @clk for (i = 0; i < 8; i = i + 1) if (c) q[i] <= b[i];", 1},
	} {
		d := designOf(t, "module m (input [7:0] a, input [7:0] b, input c, input d, output reg [7:0] q); "+c.text+" endmodule")
		n := shows(t, c.text, d, traceOf(rand.New(rand.NewSource(20)), &d, 30))
		count := 0
		for i := range n.Nodes {
			switch n.Nodes[i].Kind {
			case api.NIn, api.NReg, api.XNum, api.XSlice, api.XCat:
			default:
				count++
			}
		}
		if count > c.most {
			t.Errorf("%s: %d nodes, at the most %d: %+v", c.text, count, c.most, n.Nodes)
		}
	}
}
