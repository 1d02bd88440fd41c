package sim

import (
	"fmt"
	"strings"
	"testing"

	"gatewright/api"
)

// chain is a net behind the other, the last one ahead in the text: what comes in goes one step a delta, in the order of the numbers.
func chain(steps int, first string) string {
	text := fmt.Sprintf("module m (input [7:0] a, output [7:0] q); wire [7:0] x0; wire [7:0] x%d;", steps)
	for i := 1; i < steps; i++ {
		text += fmt.Sprintf("wire [7:0] x%d;", i)
	}
	text += fmt.Sprintf("assign q = x%d;", steps)
	for i := steps; i > 0; i-- {
		text += fmt.Sprintf("assign x%d = x%d;", i, i-1)
	}
	return text + "assign x0 = " + first + "; endmodule"
}

func TestLongChain(t *testing.T) {
	rows(t, chain(1200, "a + 1"), column(3, 3, 255, 9), nil, column(4, 4, 0, 10))
	rows(t, chain(1200, "a + 1"), column(3, 3, 255, 9), []int{-1}, column(4, 4, 0, 10))
	loops(t, chain(1200, "x1200 + a"), column(0, 0, 1), nil, 2)
}

// TestManyProcesses: all of 2000 processes run again and again until there have been too many deltas.
func TestManyProcesses(t *testing.T) {
	text := `module m (input a, output x); wire y; assign x = a ? !y : 0; assign y = x;
for (i = 0; i < 10; i = i + 1) begin : g for (k = 0; k < 199; k = k + 1) begin : h wire z; assign z = x ^ y; end end endmodule`
	loops(t, text, column(0, 0, 1), []int{5, 0, 7, -3}, 2)
}

// TestDeepExpression has operations within operations, as many as a text can hold.
func TestDeepExpression(t *testing.T) {
	rows(t, "module m (input a, output q); assign q = "+strings.Repeat("~", 59000)+"a; endmodule", column(0, 1), nil, column(0, 1))
	rows(t, "module m (input [7:0] a, output [7:0] q); assign q = "+strings.Repeat("a+", 29000)+"a; endmodule", column(0, 3), nil, column(0, 29001*3%256))
}

// TestLongCase: what a case looks at is long, and so is the list of its labels: a tree of their own for each would fill the memory.
func TestLongCase(t *testing.T) {
	text := "module m (input [7:0] a, output reg q); always @* case (" + strings.Repeat("a+", 6000) + "a) " + strings.Repeat("7,", 6000) + "18003: q = 1; default: q = 0; endcase endmodule"
	rows(t, text, column(0, 3), nil, column(0, 1))
}

// TestLongChoice has as many acts as a design may have, each in the else of the one ahead.
func TestLongChoice(t *testing.T) {
	var text strings.Builder
	text.WriteString("module m (input [15:0] a, output reg [15:0] q); always @* case (a) ")
	for i := range 3500 {
		fmt.Fprintf(&text, "%d: q = %d;", i, 3*i)
	}
	text.WriteString("default: q = 1; endcase endmodule")
	rows(t, text.String(), column(0, 1, 3499, 3500), nil, column(0, 3, 3*3499, 1))
}

// TestLongTrace runs for many cycles.
func TestLongTrace(t *testing.T) {
	text := "module m (input [7:0] a, output [31:0] q); reg [31:0] r; assign q = r; always @clk r <= r * 5 + a; endmodule"
	trace := make([][]uint64, 100000)
	got, err := Run(designOf(t, text), trace, []int{3})
	if err != nil || len(got) != len(trace) {
		t.Fatal(len(got), err)
	}
	trace[0] = []uint64{1}
	got, _ = Run(designOf(t, text), trace, []int{3})
	want := uint64(1)
	for i := 1; i < len(got); i++ {
		if got[i][0] != want {
			t.Fatalf("cycle %d: %d, want %d", i, got[i][0], want)
		}
		want = want * 5 & (1<<api.MaxWidth - 1)
	}
}
