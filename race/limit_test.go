package race

import (
	"fmt"
	"strings"
	"testing"

	"gatewright/api"
)

// TestLongRing has as many processes as a design may have, each reading what the one ahead sets.
func TestLongRing(t *testing.T) {
	ring := func(from int) string {
		return fmt.Sprintf(`module m (input a, output q); for (i = 0; i < 60; i = i + 1) begin : g wire first; wire [31:0] w;
assign first = w[31]; for (k = 1; k < 32; k = k + 1) begin : h assign w[k] = w[k - 1]; end if (i >= %d) begin : z assign w[0] = first; end end endmodule`, from)
	}
	wants(t, designOf(t, ring(60)), 0, 0)
	wants(t, designOf(t, ring(59)), api.FLoop, 59*32)
	wants(t, designOf(t, ring(0)), api.FLoop, 0)
}

// TestWholeChain: one process reads all nets, and all read what it sets.
func TestWholeChain(t *testing.T) {
	var sum strings.Builder
	for i := range 200 {
		fmt.Fprintf(&sum, "+ x%d", i)
	}
	text := "module m (input a, output q); wire s; "
	for i := range 200 {
		text += fmt.Sprintf("wire x%d; assign x%d = s; ", i, i)
	}
	wants(t, designOf(t, text+"assign s = a; assign q = 0 "+sum.String()+"; endmodule"), 0, 0)
	wants(t, designOf(t, text+"assign s = 0 "+sum.String()+"; endmodule"), api.FLoop, 0)
}

// TestLongCase: many labels, each in the else of the one ahead; what the case looks at is long too.
func TestLongCase(t *testing.T) {
	text := "module m (input [7:0] a, output reg q); reg r; always @* begin r = 1; case (" + strings.Repeat("r+", 6000) + "a) " + strings.Repeat("7,", 6000) + "18003: q = 1; @@ endcase end endmodule"
	wants(t, designOf(t, strings.Replace(text, "@@", "default: q = 0;", 1)), 0, 0)
	wants(t, designOf(t, strings.Replace(text, "@@", "", 1)), api.FLatch, 1)
	wants(t, designOf(t, strings.Replace(strings.Replace(text, "r = 1;", "", 1), "@@", "default: begin q = 0; r = 0; end", 1)), api.FLatch, 2)
}

// TestManyArms has many acts while many nets have been set.
func TestManyArms(t *testing.T) {
	var text strings.Builder
	text.WriteString("module m (input [15:0] a, output reg q); for (i = 0; i < 1; i = i + 1) begin : g ")
	sets := ""
	for i := range 1400 {
		fmt.Fprintf(&text, "reg n%d;", i)
		sets += fmt.Sprintf("n%d=1;", i)
	}
	text.WriteString("always @* begin q = 0; " + sets + "case (a) ")
	for i := range 3000 {
		fmt.Fprintf(&text, "%d:q=1;", i)
	}
	text.WriteString("endcase end end endmodule")
	wants(t, designOf(t, text.String()), 0, 0)
}

// TestDeepExpression has operations within operations, as many as a text can hold.
func TestDeepExpression(t *testing.T) {
	wants(t, designOf(t, "module m (input a, output q); assign q = "+strings.Repeat("~", 59000)+"a; endmodule"), 0, 0)
	wants(t, designOf(t, "module m (input a, output q); assign q = "+strings.Repeat("~", 59000)+"q; endmodule"), api.FLatch, 1)
}

// TestDeepActs has ifs within ifs.
func TestDeepActs(t *testing.T) {
	text := "module m (input a, output reg q); always @* " + strings.Repeat("if (a) ", 4000) + "q = 1; @@ endmodule"
	wants(t, designOf(t, strings.Replace(text, "@@", "", 1)), api.FLatch, 1)
	wants(t, designOf(t, strings.Replace(text, "@@", strings.Repeat("else q = 0; ", 2000), 1)), api.FLatch, 1)
	deep := strings.Repeat("if (a) ", 2500) + "q = 1; " + strings.Repeat("else q = 0; ", 2500)
	wants(t, designOf(t, "module m (input a, output reg q); always @* "+deep+" endmodule"), 0, 0)
}
