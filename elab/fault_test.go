package elab

import (
	"reflect"
	"strings"
	"testing"

	"gatewright/api"
	"gatewright/parse"
)

// modules reads a text that must be one.
func modules(t *testing.T, text string) []api.Module {
	t.Helper()
	ms, err := parse.Text(text)
	if err != nil {
		code, at := api.Code(err)
		t.Fatalf("%.200q: fault %d at %d of the text", text, code, at)
	}
	return ms
}

// wantFault asks for a fault of the design of m.
func wantFault(t *testing.T, text string, code, at int) {
	t.Helper()
	d, err := Design(modules(t, text), "m")
	if c, p := api.Code(err); c != code || p != at {
		t.Errorf("%.300q: fault %d at %d, want %d at %d", text, c, p, code, at)
	} else if code != 0 && !reflect.DeepEqual(d, api.Design{}) {
		t.Errorf("%.300q: a design beside a fault", text)
	}
}

// marked is a text with a $ where its fault is; without one it has none.
type marked struct {
	code int
	text string
}

func (m marked) check(t *testing.T) {
	t.Helper()
	at := strings.Index(m.text, "$")
	if at < 0 {
		wantFault(t, m.text, 0, 0)
		return
	}
	wantFault(t, strings.Replace(m.text, "$", "", 1), m.code, at)
}

// checkAll checks texts, each put in the place of @@ in a frame.
func checkAll(t *testing.T, frame string, all []marked) {
	t.Helper()
	for _, m := range all {
		m.text = strings.Replace(frame, "@@", m.text, 1)
		m.check(t)
	}
}

func TestModules(t *testing.T) {
	checkAll(t, "@@", []marked{
		{0, "module m (); endmodule"},
		{api.FTwice, "module m (); endmodule $module m (); endmodule"},
		{api.FTwice, "module a (); endmodule module m (); endmodule $module a (); endmodule module m (); endmodule"},
		{api.FTwice, "module m (); wire x, x; endmodule module a (); endmodule $module a (); endmodule"},
		{0, "module a (input x, input x); k u (); endmodule module m (); endmodule"},
		{0, "module m (); wire m; endmodule"},
	})
	for _, text := range []string{"", "module k (); endmodule", "module k (); wire x, x; endmodule"} {
		wantFault(t, text, api.FName, 0)
	}
	wantFault(t, "module a (); endmodule module a (); endmodule", api.FTwice, 23)
	if d, err := Design(nil, ""); err == nil || d.Nets != nil {
		t.Error("a design of nothing")
	}
}

func TestNamesOfScopes(t *testing.T) {
	checkAll(t, "module k (); endmodule module m @@ endmodule", []marked{
		{api.FTwice, "#(P = 1, $P = 2) ();"},
		{api.FTwice, "#(P = 1) (input $P);"},
		{api.FTwice, "(input a, output $a);"},
		{api.FTwice, "(input a); wire $a;"},
		{api.FTwice, "(input a); $localparam a = 1;"},
		{api.FTwice, "(); wire a; reg $a;"},
		{api.FTwice, "(); wire a, b, $a;"},
		{api.FTwice, "(); wire a; reg $a [0:1];"},
		{api.FTwice, "(); k a (); $k a ();"},
		{api.FTwice, "(); wire a; $k a ();"},
		{api.FTwice, "(); k a (); wire $a;"},
		{api.FTwice, "(); wire L; $for (i = 0; i < 1; i = i + 1) begin : L end"},
		{api.FTwice, "(); wire L; $if (0) begin : L end"},
		{api.FTwice, "(); wire L; $if (1) begin : K end else begin : L end"},
		{api.FTwice, "(); $if (1) begin : L end else begin : L end"},
		{api.FTwice, "(); if (0) begin : L end $if (0) begin : L end"},
		{api.FTwice, "(); if (0) begin : K end else begin : L end wire $L;"},
		{api.FTwice, "(); if (1) begin : L wire a; reg $a; end"},
		{api.FTwice, "(); for (i = 0; i < 2; i = i + 1) begin : L wire $i; end"},
		{0, "(); for (i = 0; i < 2; i = i + 1) begin : L if (1) begin : K wire i; end end"},
		{api.FTwice, "(); for (i = 0; i < 2; i = i + 1) begin : L $if (1) begin : i end end"},
		{0, "(); for (i = 0; i < 0; i = i + 1) begin : L wire i; end"},
		{0, "(); for (i = 0; i < 2; i = i + 1) begin : i wire L; end"},
		{0, "(); for (i = 0; i < 2; i = i + 1) begin : L wire a; end if (1) begin : K wire a, L; end wire a;"},
		{0, "(input a); if (1) begin : L localparam a = 3; wire [a:0] b = 4'd15; wire c = b[3]; end"},
		{0, "(); if (0) begin : L wire a; reg a; end"},
	})
}

func TestNamesAreAheadOfTheirUse(t *testing.T) {
	checkAll(t, "module k #(P = 1) (input a, output b); wire c; endmodule module m @@ endmodule", []marked{
		{api.FName, "#(P = $Q, Q = 1) ();"},
		{api.FName, "#(P = $P) ();"},
		{api.FName, "(); localparam P = $P;"},
		{api.FName, "(input [$W:0] a); localparam W = 1;"},
		{api.FName, "(input a, input [$b:0] b);"},
		{api.FName, "(); wire a = $b; wire b;"},
		{0, "(); wire a = a;"},
		{api.FName, "(); reg a = $a;"},
		{api.FName, "(); wire [$a:0] a;"},
		{api.FName, "(); assign $a = 1;"},
		{api.FName, "(); assign $a[0] = 1;"},
		{api.FName, "(); assign $a[1:0] = 1;"},
		{api.FName, "(); always @* $a = 1;"},
		{api.FName, "(); always @* if ($a) ;"},
		{api.FName, "(); always @* case ($a) endcase"},
		{api.FName, "(); always @* case (1) 1: ; default: ; $b: ; endcase"},
		{api.FName, "(); if ($a) begin : L end"},
		{api.FName, "(); if (1) begin : L wire a; end wire b = $a;"},
		{api.FName, "(); for (i = $i; i < 1; i = i + 1) begin : L end"},
		{api.FName, "(); for (i = 0; $j < 1; i = i + 1) begin : L localparam j = 1; end"},
		{api.FName, "(); for (i = 0; i < 1; i = $j + 1) begin : L localparam j = 1; end"},
		{api.FConst, "(); for (i = $L; i < 1; i = i + 1) begin : L end"},
		{api.FConst, "(); for (i = 0; i < $L; i = i + 1) begin : L end"},
		{api.FName, "(); for (i = 0; i < 1; i = i + 1) begin : L end wire a = $i;"},
		{api.FName, "(); reg q; always @* begin for (i = 0; i < 1; i = i + 1) q = i; q = $i; end"},
		{api.FName, "(); $n u ();"},
		{api.FName, "(); wire x; k u (.a(1), .b(x)); wire y = $c;"},
		{api.FName, "(); k u (.a($b));"},
		{api.FName, "(); k #(.P($P)) u ();"},
		{api.FName, "(); k u (.b($n));"},
		{0, "(); if (0) begin : L wire a = b; n u (); end"},
	})
}

func TestConstants(t *testing.T) {
	checkAll(t, "module m (input a, input [3:0] b); localparam P = 3; reg r [0:3]; if (1) begin : L end localparam X = @@; endmodule", []marked{
		{0, "P + 1"},
		{0, "(~P - !P * -P) << P >> P & 1 | 2 ^ 3 && 4 || 5 == 6 != 7 < 8 <= 9 > 10 >= 11"},
		{0, "P ? P : P"},
		{api.FConst, "$a"},
		{api.FConst, "$r"},
		{api.FConst, "$L"},
		{api.FConst, "$P[0]"},
		{api.FConst, "$P[1:0]"},
		{api.FConst, "$a[0]"},
		{api.FConst, "$none[0]"},
		{api.FConst, "$none[1:0]"},
		{api.FConst, "$none[nor[0]]"},
		{api.FName, "$none"},
		{api.FConst, "$&P"},
		{api.FConst, "$|none"},
		{api.FConst, "$^3"},
		{api.FConst, "${P}"},
		{api.FConst, "${P, none}"},
		{api.FConst, "${2{1'd1}}"},
		{api.FConst, "~$a"},
		{api.FConst, "-(!(~$a))"},
		{api.FConst, "~$&a"},
		{api.FConst, "1 + $a + none"},
		{api.FName, "1 + $none + a"},
		{api.FConst, "1 + 2 * $a"},
		{api.FConst, "0 && $a"},
		{api.FConst, "1 || $a"},
		{api.FConst, "1 ? 2 : $a"},
		{api.FConst, "0 ? $a : 2"},
		{api.FConst, "$a ? none : 2"},
		{api.FName, "$none ? a : a"},
		{api.FConst, "(1 ? 2 : 3) + ($b[0])"},
	})
	checkAll(t, "module m (input a); @@ endmodule", []marked{
		{api.FConst, "wire [$a:0] x;"},
		{api.FConst, "wire [0:$a] x;"},
		{api.FConst, "reg x = $a;"},
		{api.FConst, "reg x [$a:0];"},
		{api.FConst, "reg x [0:$a];"},
		{api.FConst, "if ($a) begin : L end"},
		{api.FConst, "for (i = $a; i < 2; i = i + 1) begin : L end"},
		{api.FConst, "for (i = 0; i < $a; i = i + 1) begin : L end"},
		{api.FConst, "for (i = 0; i < 1; i = $a) begin : L end"},
		{0, "for (i = 0; i < 0; i = a) begin : L end"},
		{api.FConst, "always @* for (i = $a; i < 2; i = i + 1) ;"},
		{api.FConst, "always @* for (i = 0; i < $a; i = i + 1) ;"},
		{api.FConst, "always @* for (i = 0; i < 1; i = $a) ;"},
		{api.FConst, "wire x = a[$a:0];"},
		{api.FConst, "wire x = a[0:$a];"},
		{api.FConst, "wire x = {$a{a}};"},
	})
	for _, c := range []struct {
		expr string
		want uint64
	}{
		{"4294967295 + 2", 1}, {"0 - 1", 1<<32 - 1}, {"65536 * 65537", 65536}, {"~4'd0", 1<<32 - 1}, {"-4'd1", 1<<32 - 1},
		{"1 << 31", 1 << 31}, {"1 << 32", 0}, {"1 << 4294967295", 0}, {"4294967295 >> 31", 1}, {"4294967295 >> 32", 0}, {"3 << 31", 1 << 31},
		{"4'd15 + 4'd1", 16}, {"!5", 0}, {"!0", 1}, {"2 && 4", 1}, {"2 && 0", 0}, {"0 || 0", 0}, {"0 || 8", 1}, {"6 & 3", 2}, {"6 | 3", 7}, {"6 ^ 3", 5},
		{"2 < 3", 1}, {"3 < 3", 0}, {"3 <= 3", 1}, {"4 <= 3", 0}, {"4294967295 > 0", 1}, {"3 > 3", 0}, {"3 >= 3", 1}, {"2 >= 3", 0}, {"3 == 3", 1}, {"3 == 4", 0}, {"3 != 3", 0}, {"4 != 3", 1},
		{"0 ? 5 : 6", 6}, {"7 ? 5 : 6", 5}, {"~~9", 9}, {"2 ? 0 ? 1 : 3 : 4", 3},
	} {
		d, err := Design(modules(t, "module m (); localparam P = "+c.expr+"; reg [31:0] r = P; endmodule"), "m")
		if err != nil || d.Nets[0].Init != c.want {
			t.Errorf("%s: %v %v, want %d", c.expr, d.Nets, err, c.want)
		}
	}
}

func TestDeclarations(t *testing.T) {
	checkAll(t, "module m (input a); @@ endmodule", []marked{
		{0, "wire [31:0] x; wire [0:0] y; reg [31:0] z [0:255]; reg w [0:0];"},
		{api.FRange, "wire [3:$1] x;"},
		{api.FRange, "wire [32:$1] x;"},
		{api.FRange, "wire [3:2 $- 1] x;"},
		{api.FWidth, "wire [$32:0] x;"},
		{api.FWidth, "wire [0 $- 1:0] x;"},
		{api.FWidth, "reg [$4294967295:0] x;"},
		{api.FRange, "reg x [$1:3];"},
		{api.FRange, "reg x [$1:256];"},
		{api.FWidth, "reg x [0:$256];"},
		{api.FWidth, "reg x [0:0 $- 1];"},
		{api.FConst, "wire [$a:1] x;"},
		{api.FRange, "reg [3:$1] x = a;"},
		{api.FRange, "reg [3:$1] x [1:a];"},
		{api.FConst, "reg a = $a;"},
		{api.FConst, "wire [1:$a] x;"},
		{api.FConst, "localparam a = $a;"},
		{api.FTwice, "reg $a = 1;"},
		{api.FWidth, "reg a [0:$256];"},
	})
	checkAll(t, "module m #(P = 40, Q = 1) (@@); endmodule", []marked{
		{api.FWidth, "input [$P:0] a"},
		{api.FRange, "input [P:$Q] a"},
		{api.FRange, "input a, output reg [31:$Q] a"},
		{api.FConst, "input a, input [$a:0] b"},
	})
}

func TestUses(t *testing.T) {
	checkAll(t, "module k #(P = 1, Q = P) (input [P - 1:0] a, output b); endmodule module m (input x, output y); wire z; @@ endmodule", []marked{
		{0, "k u ();"},
		{0, "k #(.P(2), .Q(3)) u (.a(x), .b(y));"},
		{0, "k #(.Q(3), .P(2)) u (.b(y), .a(x));"},
		{0, "k u (.a(), .b());"},
		{api.FName, "$n z ();"},
		{api.FTwice, "$k z (.c());"},
		{api.FPort, "k #($.R(1)) u (.c());"},
		{api.FPort, "k #($.a(1)) u ();"},
		{api.FPort, "k #(.P(1), $.P(none)) u ();"},
		{api.FPort, "k #(.P(1), $.R(1), .P(x)) u ();"},
		{api.FConst, "k #(.P($x), .R(1)) u ();"},
		{api.FName, "k #(.P($P)) u ();"},
		{api.FConst, "k #(.P($u)) u ();"},
		{api.FPort, "k u ($.c());"},
		{api.FPort, "k u ($.P(1));"},
		{api.FPort, "k u (.a(none), $.a());"},
		{api.FPort, "k u (.a(), $.a());"},
		{api.FPort, "k #(.P(40)) u (.a(), .b(none), $.d(1));"},
		{api.FName, "k u (.a($none));"},
		{api.FName, "k u (.a($none), .b(1));"},
		{api.FKind, "k u (.b(1 $+ none), .a(1));"},
		{api.FKind, "k u (.b($1));"},
		{api.FKind, "k u (.b($x));"},
		{api.FKind, "k u (.b({z, $1}));"},
		{api.FKind, "k u (.b({z, $x, none}));"},
		{api.FName, "k u (.b({z, $none, 1}));"},
		{api.FKind, "k u (.b($~z));"},
		{api.FKind, "reg r; k u (.b($r));"},
		{api.FKind, "k u (.b(${1{z}}));"},
		{api.FKind, "k u (.b(x $? z : z));"},
		{0, "k u (.b({z, {y}}));"},
		{api.FKind, "k u (.b($u));"},
	})
	checkAll(t, "module k #(P = 1) (input [$P:0] a, input a); endmodule module m (); k #(.P(@@)) u (.a(none)); endmodule", []marked{{api.FWidth, "32"}})
	checkAll(t, "module k #(P = 1) (input [P:0] a, input $a); endmodule module m (); k #(.P(@@)) u (.a(none)); endmodule", []marked{{api.FTwice, "31"}})
	checkAll(t, "module k #(P = @@) (); endmodule module m (); k #(.P(1)) u (); k w (); endmodule", []marked{{api.FName, "$none"}})
	checkAll(t, "module k #(P = @@) (); endmodule module m (); k #(.P(1)) u (); endmodule", []marked{{0, "none"}})
}

func TestDeepUses(t *testing.T) {
	const frame = "module m #(D = @@) (); if (D > 0) begin : L $m #(.D(D - 1)) u (); end endmodule"
	checkAll(t, strings.Replace(frame, "$", "", 1), []marked{{0, "0"}, {0, "1"}, {0, "11"}, {0, "12"}})
	checkAll(t, frame, []marked{{api.FDeep, "13"}, {api.FDeep, "100"}})
	checkAll(t, "module m (); @@ endmodule", []marked{
		{api.FDeep, "$m u ();"},
		{api.FPort, "m #($.D(1)) u ();"},
		{api.FDeep, "for (i = 0; i < 3; i = i + 1) begin : L $m u (); end"},
	})
}

func TestLongLoops(t *testing.T) {
	checkAll(t, "module m (); reg q; @@ endmodule", []marked{
		{0, "for (i = 0; i < 256; i = i + 1) begin : L end"},
		{api.FDeep, "$for (i = 0; i < 257; i = i + 1) begin : L end"},
		{api.FDeep, "$for (i = 0; 1; i = i) begin : L end"},
		{api.FDeep, "for (j = 0; j < 2; j = j + 1) begin : K $for (i = 0; 1; i = i) begin : L end end"},
		{0, "for (i = 300; i > 44; i = i - 1) begin : L end"},
		{0, "always @* for (i = 0; i < 256; i = i + 1) q = i;"},
		{api.FDeep, "always @* $for (i = 0; i < 257; i = i + 1) q = i;"},
		{api.FDeep, "always @* begin $for (i = 1; i; i = i) ; end"},
		{api.FName, "always @* for (i = 0; i < 257; i = i + 1) q = $none;"},
		{api.FName, "for (i = 0; i < 257; i = i + 1) begin : L if (i == 255) begin : K wire x = $none; end end"},
		{api.FDeep, "$for (i = 0; i < 257; i = i + 1) begin : L if (i == 256) begin : K wire x = none; end end"},
		{api.FName, "for (i = 0; i < 1; i = none) begin : L wire x = $nor; end"},
	})
}

func TestExpressionFaults(t *testing.T) {
	checkAll(t, "module k (); endmodule module m (input [3:0] a, input b); localparam P = 2; reg [3:0] r [0:4]; k u (); if (1) begin : L end wire [31:0] w; wire [31:0] x = @@; endmodule", []marked{
		{0, "a[0] + a[3] + a[3:0] + a[2:2] + r[0] + r[4] + a[b] + r[b] + a[a[a]] + r[r[0]]"},
		{api.FRange, "a[$4]"},
		{api.FRange, "a[4 $- 5]"},
		{api.FRange, "b[$1]"},
		{0, "b[0] + b[0:0]"},
		{api.FRange, "a[4'd15 $+ 4'd1]"},
		{0, "a[4'd15 + 4'd1 - 14]"},
		{0, "a[{3'd4}] + a[&4]"},
		{api.FRange, "r[$5]"},
		{api.FRange, "a[$4:0]"},
		{api.FRange, "a[3:$4]"},
		{api.FRange, "a[$4:5]"},
		{api.FRange, "a[1:$2]"},
		{api.FConst, "a[$b:none]"},
		{api.FName, "a[4:$none]"},
		{api.FConst, "a[4:$b]"},
		{api.FName, "a[$none]"},
		{api.FName, "a[b + $none]"},
		{api.FKind, "a[b + $u]"},
		{api.FRange, "a[b + a[$4]]"},
		{api.FKind, "$r"},
		{api.FKind, "$r[1:0]"},
		{api.FKind, "$r[none:0]"},
		{api.FKind, "$P[0]"},
		{api.FKind, "$P[none]"},
		{api.FKind, "$P[1:none]"},
		{api.FKind, "$u"},
		{api.FKind, "$u[none]"},
		{api.FKind, "$L"},
		{api.FKind, "$L[none:1]"},
		{api.FKind, "r[$r]"},
		{api.FKind, "r[$u]"},
		{api.FWidth, "${w, b}"},
		{api.FWidth, "${b, 1}"},
		{api.FWidth, "${P, b}"},
		{0, "{P}"},
		{0, "{a, a, a, a, a, a, a, a}"},
		{api.FWidth, "${a, a, a, a, a, a, a, a, b}"},
		{api.FName, "{w, w, $none}"},
		{api.FWidth, "{w, ${w, w}, none}"},
		{api.FWidth, "${0{b}}"},
		{api.FWidth, "${33{b}}"},
		{api.FWidth, "${0{none}}"},
		{api.FWidth, "${33{none}}"},
		{api.FWidth, "${0 - 1{none}}"},
		{0, "{32{b}} + {8{a}} + {1{w}} + {2{a, a, a, a}}"},
		{api.FWidth, "${9{a}}"},
		{api.FWidth, "{9${w, b}}"},
		{api.FWidth, "${31{a, b}}"},
		{api.FName, "{1{$none}}"},
		{api.FConst, "{$b{none}}"},
		{api.FName, "{$none{b}}"},
		{api.FConst, "{${1'd1}{none}}"},
		{api.FName, "$none + nor"},
		{api.FName, "b + $nor"},
		{api.FName, "b ? $none : nor"},
		{api.FName, "b ? a : $nor"},
		{api.FKind, "$r ? none : nor"},
		{api.FName, "~$none"},
		{api.FName, "b << $none"},
		{api.FName, "b && $none"},
		{api.FName, "0 && $none"},
		{api.FName, "1 ? 1 : $none"},
		{api.FKind, "&$r"},
	})
}

func TestTargetFaults(t *testing.T) {
	const ahead = "module k (); endmodule module m (input [3:0] a, output [3:0] o, output reg [3:0] q); localparam P = 2; reg [3:0] r [0:4]; reg [3:0] s; wire [3:0] w; wire [31:0] v; reg [31:0] z; k u (); if (1) begin : L end "
	checkAll(t, ahead+"assign @@; endmodule", []marked{
		{0, "o = 1"}, {0, "w = 1"}, {0, "w[0] = 1"}, {0, "w[3] = 1"}, {0, "w[2:1] = 1"}, {0, "{w, o} = 1"}, {0, "{w[0], {o[3:1]}} = 1"},
		{0, "{v} = 1"}, {0, "w[P] = 1"},
		{api.FWidth, "${v, w[0]} = none"},
		{api.FWidth, "{w, ${v, w}, none} = none"},
		{api.FName, "{v, v, $none} = 1"},
		{api.FKind, "$P = 1"}, {api.FKind, "$P[none] = 1"}, {api.FKind, "$u = 1"}, {api.FKind, "$u[none] = 1"}, {api.FKind, "$L = 1"}, {api.FKind, "$a = 1"}, {api.FKind, "$a[none] = 1"}, {api.FKind, "$a[4] = 1"}, {api.FKind, "$a[none:0] = 1"},
		{api.FKind, "$s = 1"}, {api.FKind, "$q = 1"}, {api.FKind, "$s[none] = 1"}, {api.FKind, "$r = 1"}, {api.FKind, "$r[0] = 1"}, {api.FKind, "$r[none] = 1"}, {api.FKind, "$r[1:0] = 1"},
		{api.FKind, "$w[a] = 1"}, {api.FKind, "$w[{1'd1}] = 1"}, {api.FName, "w[$none] = 1"}, {api.FKind, "w[$u] = 1"}, {api.FRange, "w[a[$4]] = 1"},
		{api.FRange, "w[$4] = none"}, {api.FRange, "w[$4:5] = none"}, {api.FRange, "w[1:$2] = none"}, {api.FConst, "w[$a:none] = 1"}, {api.FConst, "w[4:$a] = 1"},
		{api.FName, "$none = nor"}, {api.FKind, "$a = none"}, {api.FKind, "{w, $a, none} = nor"}, {api.FName, "w = $none"},
	})
	checkAll(t, ahead+"always @clk @@; endmodule", []marked{
		{0, "q = 1"}, {0, "q <= 1"}, {0, "s[3] <= 1"}, {0, "s[a] <= 1"}, {0, "s[a] = 1"}, {0, "s[2:1] = 1"}, {0, "{s, q, s[a], q[1], q[1:0]} = 1"},
		{0, "r[0] <= 1"}, {0, "r[4] <= 1"}, {0, "r[a] <= 1"}, {0, "{r[a], s} <= 1"}, {0, "{z} <= 1"},
		{api.FWidth, "${z, q} <= none"},
		{api.FKind, "$o = 1"}, {api.FKind, "$w = 1"}, {api.FKind, "$w[none] <= 1"}, {api.FKind, "$a <= 1"}, {api.FKind, "$P <= 1"}, {api.FKind, "$L[none] <= 1"},
		{api.FKind, "$r = 1"}, {api.FKind, "$r <= 1"}, {api.FKind, "$r[none:0] <= 1"}, {api.FKind, "$r[0] = none"}, {api.FKind, "$r[a] = none"},
		{api.FName, "r[$none] = 1"}, {api.FRange, "r[$5] = 1"}, {api.FRange, "r[$5] <= none"}, {api.FRange, "r[a[$4]] = 1"},
		{api.FRange, "s[$4] = none"}, {api.FName, "s[$none] = nor"}, {api.FConst, "s[$a:0] = 1"},
		{api.FName, "s = $none"}, {api.FName, "{$nor, none} = none"}, {api.FKind, "{s, $w} <= none"},
	})
	checkAll(t, ahead+"always @* @@; endmodule", []marked{
		{0, "q = 1"}, {0, "s[a] = 1"},
		{api.FKind, "$q <= 1"}, {api.FKind, "$none <= nor"}, {api.FKind, "$r[0] <= 1"}, {api.FKind, "${q, s} <= 1"},
		{api.FKind, "$r[0] = 1"}, {api.FName, "r[$none] = 1"},
		{api.FKind, "for (q = 0; q < 1; q = q + 1) $q = 1"},
		{api.FKind, "for (q = 0; q < 1; q = q + 1) for (i = 0; i < 1; i = i + 1) $q[i] = 1"},
		{0, "for (i = 0; i < 4; i = i + 1) q[i] = a[3 - i]"},
		{api.FRange, "for (i = 0; i < 5; i = i + 1) q[$i] = 1"},
		{api.FRange, "for (i = 0; i < 5; i = i + 1) q[3 $- i] = a[i] + a[3 - i]"},
		{api.FRange, "for (i = 0; i < 5; i = i + 1) q[0] = a[$i] + a[3 - i]"},
	})
	checkAll(t, "module k (output [3:0] b, output [3:0] c); endmodule "+ahead[len("module k (); endmodule "):len(ahead)-len("k u (); if (1) begin : L end ")]+"k u (.b(@@), .c(none)); endmodule", []marked{
		{api.FName, "$none"}, {api.FKind, "$s"}, {api.FKind, "$a"}, {api.FKind, "$w[a]"}, {api.FName, "w[$none]"}, {api.FKind, "$r[0]"}, {api.FRange, "w[$4]"}, {api.FWidth, "${v, w}"}, {api.FKind, "w $+ none"},
	})
}

func TestStatementFaults(t *testing.T) {
	checkAll(t, "module m (input [3:0] a, output reg [3:0] q); reg r [0:4]; always @* @@ endmodule", []marked{
		{0, ";"}, {0, "begin end"}, {0, "case (a) endcase"}, {0, "case (a) default ; endcase"},
		{api.FName, "if ($none) q = nor; else q = none;"},
		{api.FName, "if (a) q = $nor; else q = none;"},
		{api.FName, "if (a) q = 1; else q = $none;"},
		{api.FName, "if (0) q = $nor;"},
		{api.FName, "case ($none) a: q = nor; b: ; endcase"},
		{api.FName, "case (a) a: q = nor; $b: ; endcase"},
		{api.FName, "case (a) a, $c: q = nor; b: ; endcase"},
		{api.FName, "case (a) a: q = $nor; 1: q = none; endcase"},
		{api.FName, "case (a) default: q = $nor; endcase"},
		{api.FKind, "case ($r) default: q = nor; endcase"},
		{api.FName, "begin q = 1; q = $none; end"},
		{api.FName, "begin q = 1; begin q = $none; end q = nor; end"},
		{api.FKind, "case (1) 1: $q <= none; endcase"},
		{api.FName, "for (i = 0; i < 2; i = i + 1) if (i) q = a[i + 3]; else q = $none;"},
		{api.FRange, "for (i = 0; i < 2; i = i + 1) if (0) q = a[i $+ 3]; else q = 1;"},
		{api.FConst, "for (i = 0; i < 2; i = i + 1) for (j = i; j < $a; j = j + 1) ;"},
	})
}
