package elab

import (
	"strconv"
	"strings"
	"testing"

	"gatewright/api"
)

// loopOf is a loop of parts with so many turns.
func loopOf(label string, turns int, items string) string {
	return "for (i = 0; i < " + strconv.Itoa(turns) + "; i = i + 1) begin : " + label + " " + items + " end "
}

// stmtLoop is a loop of statements.
func stmtLoop(turns int, stmts string) string {
	return "for (i = 0; i < " + strconv.Itoa(turns) + "; i = i + 1) begin " + stmts + " end "
}

func TestMostNets(t *testing.T) {
	var names []string
	for i := range 100 {
		names = append(names, "a"+strconv.Itoa(i))
	}
	all := loopOf("L", 19, "wire "+strings.Join(names, ", ")+";") + "reg " + strings.Join(names[:98], ", ") + "; "
	frame := "module k #(P = 1) (input [P:0] a, input b); endmodule module m (input x, output y); " + all + "@@ endmodule"
	checkAll(t, frame, []marked{
		{0, ""},
		{api.FBig, "wire $q;"},
		{api.FBig, "reg $q;"},
		{api.FBig, "reg $q [0:1];"},
		{api.FBig, "wire $a0;"},
		{api.FName, "wire [$none:0] a0;"},
		{api.FConst, "reg a0 = $a0;"},
		{api.FWidth, "reg a0 [0:$256];"},
		{api.FTwice, "$localparam a0 = 1;"},
		{0, "if (0) begin : no wire a; end assign y = x;"},
	})
	frame = strings.Replace(frame, ", output y", "", 1)
	checkAll(t, frame, []marked{{0, ""}, {0, "wire q;"}, {api.FBig, "wire q, $r;"}, {api.FBig, "wire q; wire $a0;"}})
	checkAll(t, strings.Replace(strings.Replace(frame, "input b", "input $b", 1), "@@", "k u (.b(none));@@", 1), []marked{{api.FBig, ""}})
	checkAll(t, strings.Replace(strings.Replace(frame, "input [P:0] a", "input [P:0] $a", 1), "@@", "wire q; k u (.b(none));@@", 1), []marked{{api.FBig, ""}})
	checkAll(t, strings.Replace(strings.Replace(frame, "input [P:0] a", "input [$P:0] a", 1), "@@", "wire q; k #(.P(32)) u (.b(none));@@", 1), []marked{{api.FWidth, ""}})
}

func TestMostProcesses(t *testing.T) {
	items := loopOf("L", 19, strings.Repeat("assign w = 1; ", 100)) + strings.Repeat("always @* ; ", 95) + "k u0 (.a(1), .b(w)); k u1 (.a(1), .b()); k u2 (.a(), .b(w)); "
	checkAll(t, "module k (input a, output b); endmodule module m (input x); reg q; wire w; "+items+"@@ endmodule", []marked{
		{0, ""},
		{0, "assign w = 1;"},
		{0, "always @* q = 1;"},
		{0, "k u (.a(1));"},
		{api.FBig, "always @* ; $assign w = 1;"},
		{api.FBig, "assign w = 1; $always @* ;"},
		{api.FBig, "assign w = 1; $always @clk begin q <= 1; end"},
		{api.FName, "assign w = 1; assign $none = 1;"},
		{api.FName, "assign w = 1; assign w = $none;"},
		{api.FName, "assign w = 1; always @* begin q = $none; end"},
		{api.FBig, "k u (.a(1), $.b(w));"},
		{api.FBig, "k u (.b(w), $.a(1));"},
		{0, "k u (.b(w), .a());"},
		{api.FName, "k u (.b(w), .a($none));"},
		{api.FName, "k u (.b(w)); wire y = $none;"},
		{api.FKind, "k u (.a(1), .b($x));"},
		{api.FBig, "assign w = 1; wire $y = 1;"},
	})
}

func TestMostActs(t *testing.T) {
	some := stmtLoop(199, strings.Repeat("q = 1; ", 100)) + strings.Repeat("if (x) ; ", 40) + strings.Repeat("case (x) 1: ; 2, 3: ; default: ; endcase ", 13) + strings.Repeat("q = 1; ", 20)
	checkAll(t, "module k (input a, output b); endmodule module m (input x); reg q; wire w; always @clk begin "+some+"@@ end assign w = 1; endmodule", []marked{
		{0, ""},
		{api.FBig, "q = 1; $q = 1;"},
		{api.FBig, "q = 1; ${q} = 1;"},
		{api.FBig, "q = 1; $if (x) ;"},
		{api.FBig, "q = 1; $if (x) q = none; else q = nor;"},
		{api.FName, "q = 1; if ($none) q = none;"},
		{api.FName, "q = 1; q = $none;"},
		{api.FName, "q = 1; $none = 1;"},
		{api.FBig, "q = 1; case (x) 1: $; endcase"},
		{api.FBig, "q = 1; case (x) 1: $q = none; endcase"},
		{api.FBig, "q = 1; case (x) default: $begin end endcase"},
		{api.FBig, "case (x) 1: ; 2: $q = none; endcase"},
		{api.FBig, "case (x) 1: ; default $q = none; endcase"},
		{api.FBig, "case (x) default: ; 2: $; endcase"},
		{api.FBig, "case (x) 1: begin $q = 2; end endcase"},
		{api.FName, "q = 1; case (x) 1: q = 1; $none: ; endcase"},
		{api.FName, "q = 1; case ($none) endcase"},
		{0, "; begin end case (x) endcase for (i = 0; i < 2; i = i + 1) ;"},
	})
	items := "always @clk begin " + some + "end "
	checkAll(t, "module k (input a, output b); endmodule module m (input x); reg q; wire w; "+items+"@@ endmodule", []marked{
		{0, "assign w = 1;"},
		{api.FBig, "assign w = 1; $assign w = 1;"},
		{api.FName, "assign w = 1; assign w = $none;"},
		{api.FBig, "k u (.a(1), $.b(w));"},
		{0, "k u (.a(1), .b());"},
		{api.FKind, "k u (.a(1), .b($x));"},
		{0, "assign w = 1; always @* ;"},
		{api.FBig, "assign w = 1; always @* $q = 1;"},
	})
}

func TestMostTurns(t *testing.T) {
	turns := func(n int) string {
		var b strings.Builder
		for k := 0; n > 0; k++ {
			b.WriteString(loopOf("T"+strconv.Itoa(k), min(n, 256), ""))
			n -= min(n, 256)
		}
		return b.String()
	}
	checkAll(t, "module m (); "+turns(20000-10-256)+"always @* begin "+stmtLoop(10, ";")+"end @@ endmodule", []marked{
		{0, loopOf("L", 256, "")},
		{0, loopOf("L", 256, "") + loopOf("K", 0, "")},
		{api.FBig, loopOf("L", 256, "") + "$" + loopOf("K", 1, "wire x = none;")},
		{api.FBig, loopOf("L", 256, "") + "always @* $" + stmtLoop(1, "x = 1;")},
		{api.FDeep, "$" + loopOf("L", 257, "")},
		{api.FBig, loopOf("L", 1, "$"+loopOf("K", 256, ""))},
		{api.FBig, loopOf("L", 1, "") + "$" + loopOf("K", 256, "")},
		{api.FName, loopOf("L", 256, "") + "for (i = 0; $none; i = 0) begin : K end"},
	})
}

func TestMostUses(t *testing.T) {
	uses := loopOf("L", 250, "k a (); k b (); k c (); k d ();") + "for (j = 0; j < 249; j = j + 1) begin : M k2 a (); k b (); k c (); end j j ();"
	checkAll(t, "module j ();  k2 a (); k a1 (); endmodule module k (); endmodule module k2 (); k a (); endmodule module m (); wire w; "+uses+"@@ endmodule", []marked{
		{0, ""},
		{api.FBig, "$k u ();"},
		{api.FBig, "$k #(.none(1)) u (.none(none));"},
		{api.FBig, "$m u ();"},
		{api.FTwice, "$k w ();"},
		{api.FName, "$none w ();"},
	})
}
