package parse

import (
	"reflect"
	"runtime"
	"strings"
	"testing"

	"gatewright/api"
)

// wantFault reads a text that must have the fault FText at a place.
func wantFault(t *testing.T, text string, at int) {
	t.Helper()
	ms, err := Text(text)
	if code, place := api.Code(err); code != api.FText || place != at || ms != nil {
		t.Errorf("%.80q: fault %d at %d, %d modules, want %d at %d", text, code, place, len(ms), api.FText, at)
	}
}

// read reads a text that must have none.
func read(t *testing.T, text string) []api.Module {
	t.Helper()
	ms, err := Text(text)
	if err != nil {
		code, at := api.Code(err)
		t.Fatalf("%.80q: fault %d at %d", text, code, at)
	}
	return ms
}

// within puts an expression where one may stand, and tells where it begins.
func within(expr string) (string, int) {
	const ahead = "module m (); assign a = "
	return ahead + expr + "; endmodule", len(ahead)
}

// value reads an expression.
func value(t *testing.T, expr string) api.Expr {
	t.Helper()
	text, _ := within(expr)
	return read(t, text)[0].Items[0].Value
}

func TestNumbers(t *testing.T) {
	for _, c := range []struct {
		text  string
		num   uint64
		width int
	}{
		{"0", 0, 0},
		{"007", 7, 0},
		{"4294967295", 1<<32 - 1, 0},
		{"0000000000000000000000000012", 12, 0},
		{"1_2__3_", 123, 0},
		{"1'b1", 1, 1},
		{"32'b1111_1111_1111_1111_1111_1111_1111_1111", 1<<32 - 1, 32},
		{"32'd4294967295", 1<<32 - 1, 32},
		{"32'hffffFFFF", 1<<32 - 1, 32},
		{"2_'d3", 3, 2},
		{"0_8'haB_", 0xab, 8},
		{"3'd000000000000000000000000000000007", 7, 3},
	} {
		if e := value(t, c.text); e.Kind != api.ENum || e.Num != c.num || e.Width != c.width {
			t.Errorf("%s: %+v", c.text, e)
		}
	}
}

func TestTokensThatCannotStand(t *testing.T) {
	for _, c := range []struct {
		expr string
		at   int // behind the beginning of the expression
	}{
		{"4294967296", 0},
		{"18446744073709551616", 0},
		{"99999999999999999999999999", 0},
		{"0'd0", 0},
		{"33'd0", 0},
		{"4294967297'd0", 0},
		{"18446744073709551617'd0", 0},
		{"1'b2", 0},
		{"1'd2", 0},
		{"4'h10", 0},
		{"32'd4294967296", 0},
		{"32'h1_0000_0000_0000_0000", 0},
		{"8'B1", 0},
		{"8'o1", 0},
		{"8'", 0},
		{"8'b", 0},
		{"8'd_1", 0},
		{"8'hg", 0},
		{"8' d1", 0},
		{"8'd 1", 0},
		{"8'b12", 4},
		{"8'd1f", 4},
		{"8'hfg", 4},
		{"1a", 1},
		{"1 2", 2},
		{"8'd1'd1", 4},
		{"_1'd1", 2},
		{"a'", 1},
		{"a / b", 2},
		{"a % b", 2},
		{"a\rb", 1},
		{"a\x00", 1},
		{"\xc3\xa9", 0},
		{"a\xc3\xa9", 1},
		{"a + \"b\"", 4},
		{"a /* b", 2},
		{"a /*/ b", 2},
		{"a + " + strings.Repeat("n", 41), 4},
		{"a + " + strings.Repeat("n", 40) + " 1", 45},
		{"a <<< b", 4},
		{"a === b", 4},
		{"a !== b", 4},
		{"a + + b", 4},
		{"a ~ b", 2},
		{"clk", 0},
		{"end", 0},
	} {
		text, begin := within(c.expr)
		wantFault(t, text, begin+c.at)
	}
}

func TestBlanksAndComments(t *testing.T) {
	for _, text := range []string{
		"\t\n ",
		"//",
		"// a\n",
		"/**/",
		"/***/",
		"/* // */",
		"// /*",
		"/*\n*//**/\n//*/\n",
		"/* \xff\x00 */",
	} {
		if ms := read(t, text); len(ms) != 0 {
			t.Errorf("%q: %d modules", text, len(ms))
		}
	}
	one := "module/**/m/**/(\n)//\n;assign a/* ; */=b//*\n;always@/**/*;endmodule"
	want := "module m ();\nassign a = b;\nalways @* ;\nendmodule\n"
	if got := Print(read(t, one)); got != want {
		t.Errorf("%q: %q", one, got)
	}
	wantFault(t, "/*", 0)
	wantFault(t, "// a\n /* b *", 6)
	wantFault(t, "module // m ();", 15)
	wantFault(t, "module m (); // endmodule", 25)
	wantFault(t, "mod/**/ule m", 0)
}

func TestLength(t *testing.T) {
	read(t, strings.Repeat(" ", api.MaxText))
	for _, more := range []string{" ", "$"} {
		ms, err := Text(strings.Repeat(more, api.MaxText+1))
		if code, at := api.Code(err); code != api.FLong || at != 0 || ms != nil {
			t.Errorf("fault %d at %d", code, at)
		}
	}
	wantFault(t, strings.Repeat(" ", api.MaxText-1)+"m", api.MaxText-1)
}

// The words of the language are no names, wherever a name stands; longer and other ones are.
func TestWords(t *testing.T) {
	words := strings.Fields("module endmodule input output wire reg localparam assign always begin end if else case default endcase for clk")
	for _, w := range words {
		wantFault(t, "module "+w+" (); endmodule", 7)
		wantFault(t, "module m (input "+w+"); endmodule", 16)
		wantFault(t, "module m #("+w+" = 1) (); endmodule", 11)
		for _, name := range []string{w + "_", "_" + w, strings.ToUpper(w), w + "1"} {
			if ms := read(t, "module "+name+" (); endmodule"); ms[0].Name != name {
				t.Errorf("%s: %s", name, ms[0].Name)
			}
		}
	}
}

// The fault stands at the $, which is taken out.
func TestOtherFaults(t *testing.T) {
	for _, marked := range []string{
		"module m (); for (i = 0; i; $j = 1) begin : x end endmodule",
		"module m (); always @* for (i = 0; i; $ii = 1) ; endmodule",
		"module m (); always @* for (i = 0; i; $1 = 1) ; endmodule",
		"module m (); always @* case (a) default ; 1: ; $default: ; endcase endmodule",
		"module m (); always @* case (a) default case (b) default: ; $default ; endcase endcase endmodule",
		"module m (); always @* case (a) 1: case (b) default: ; endcase default: ; $default: ; endcase endmodule",
		"module m (); always @* if (a) ; else ; $else ; endmodule",
		"module m (); if (1) begin : x end else begin : y end $else begin : z end endmodule",
		"module m (); wire a $[1:0]; endmodule",
		"module m (); reg a = 1 $[0:1]; endmodule",
		"module m (); reg a [0:1] $= 1; endmodule",
		"module m (); reg a [0$]; endmodule",
		"module m (); localparam $[1:0] a = 1; endmodule",
		"module m (); localparam a = 1$, b = 2; endmodule",
		"module m (); assign a $<= 1; endmodule",
		"module m (); assign $(a) = 1; endmodule",
		"module m (); assign {a, $1} = 1; endmodule",
		"module m (); assign {a ${b}} = 1; endmodule",
		"module m (); assign a[1]$[2] = 1; endmodule",
		"module m (); assign a = {$}; endmodule",
		"module m (); assign a = {b, c ${d}}; endmodule",
		"module m (); assign a = {b {c}$, d}; endmodule",
		"module m (); assign a = (b[1]$; endmodule",
		"module m (); u $(); endmodule",
		"module m (); u v ($a); endmodule",
		"module m (); u v (.a$); endmodule",
		"module m (); u v (.a() $.b()); endmodule",
		"module m (); u v (.a(),$); endmodule",
		"module m (); always $if (a) ; endmodule",
		"module m (); always @clk a = 1 $endmodule",
		"module m (); always @clk $wire",
		"module m (); $input a; endmodule",
		"module m (input a, $b); endmodule",
		"module m (output $input a); endmodule",
		"module m () $endmodule",
		"module m (); endmodule $; module n (); endmodule",
		"module m (); endmodule $endmodule",
		"module m (); wire a, $; endmodule (",
	} {
		wantFault(t, strings.Replace(marked, "$", "", 1), strings.Index(marked, "$"))
	}
}

// A beginning of a text ends too early, or within its last token, which has become another one.
func TestBeginnings(t *testing.T) {
	text := "module m #(P = 1) (input [P:0] a, output reg q); reg r [0:3], s = 1; always @clk begin if (a) q = {2{r[1]}}; else case (s) 1, 2: ; default q <= a[1:0] ? 3 : 4; endcase end for (i = 0; i < 2; i = i + 1) begin : b u #(.P(1)) v (.a(), .b(c)); end endmodule"
	read(t, text)
	for n := 1; n < len(text); n++ {
		ms, err := Text(text[:n])
		code, at := api.Code(err)
		if code != api.FText || ms != nil || at > n || strings.Contains(text[at:n], " ") {
			t.Errorf("%q: fault %d at %d", text[:n], code, at)
		}
	}
}

func TestBinding(t *testing.T) {
	for _, c := range []struct{ text, want string }{
		{"a || b && c | d ^ e & f == g < h << i + j * k", "a || (b && (c | (d ^ (e & (f == (g < (h << (i + (j * k)))))))))"},
		{"a * b + c << d < e == f & g ^ h | i && j || k", "(((((((((a * b) + c) << d) < e) == f) & g) ^ h) | i) && j) || k"},
		{"a - b + c - d", "((a - b) + c) - d"},
		{"a == b != c", "(a == b) != c"},
		{"a < b <= c > d >= e", "(((a < b) <= c) > d) >= e"},
		{"a << b >> c", "(a << b) >> c"},
		{"a * b * c", "(a * b) * c"},
		{"a || b || c && d && e", "(a || b) || ((c && d) && e)"},
		{"a | b | c ^ d ^ e & f & g", "(a | b) | ((c ^ d) ^ ((e & f) & g))"},
		{"~a + -b * !c", "(~a) + ((-b) * (!c))"},
		{"a &&& b ||| c & ^d", "(a && (&b)) || ((|c) & (^d))"},
		{"a - - b", "a - (-b)"},
		{"~!-&|^a[1]", "~(!(-(&(|(^a[1])))))"},
		{"a ? b : c ? d : e", "a ? b : (c ? d : e)"},
		{"a ? b ? c : d : e", "a ? (b ? c : d) : e"},
		{"a || b ? c + d : e * f", "(a || b) ? (c + d) : (e * f)"},
		{"(a ? b : c) ? d : e", "(a ? b : c) ? d : e"},
		{"(a)", "a"},
		{"((a + b)) * c", "(a + b) * c"},
		{"a+b<=c", "(a + b) <= c"},
		{"{a + b, ~c, {d}}", "{a + b, ~c, {d}}"},
		{"{a ? b : c{d ? e : f, 1}}", "{a ? b : c{d ? e : f, 1}}"},
		{"a[b ? c : d : e + 1]", "a[b ? c : d:e + 1]"},
		{"-{a}[1] ", ""},
		{"8'hFf + 8'b11 + 8'd07 + 010", "((8'd255 + 8'd3) + 8'd7) + 10"},
	} {
		if c.want == "" {
			text, begin := within(c.text)
			wantFault(t, text, begin+strings.Index(c.text, "["))
			continue
		}
		text, _ := within(c.text)
		if got, want := Print(read(t, text)), "module m ();\nassign a = "+c.want+";\nendmodule\n"; got != want {
			t.Errorf("%s: %s, want %s", c.text, got, want)
		}
	}
}

// An expression's parts in short form, for texts in which each needle stands once.
type spots string

func (s spots) at(needle string) int {
	if strings.Count(string(s), needle) != 1 {
		panic("no single " + needle)
	}
	return strings.Index(string(s), needle)
}

func (s spots) name(name string) api.Expr {
	return api.Expr{Kind: api.EName, At: s.at(name), Name: name}
}

func (s spots) num(needle string, num uint64) api.Expr {
	return api.Expr{Kind: api.ENum, At: s.at(needle), Num: num}
}

func same(t *testing.T, what string, got, want any) {
	t.Helper()
	if !reflect.DeepEqual(got, want) {
		t.Errorf("%s:\n%+v\nwant\n%+v", what, got, want)
	}
}

func TestPlacesOfExpressions(t *testing.T) {
	text, _ := within("(aa + (~bb[10])) ? {cc[21:22], 7'd31} : {42{dd, (ee)}}")
	s := spots(text)
	sum := api.Expr{Kind: api.EBinary, At: s.at("+"), Op: api.OpAdd, Args: []api.Expr{
		s.name("aa"),
		{Kind: api.EUnary, At: s.at("~"), Op: api.OpNot, Args: []api.Expr{
			{Kind: api.EIndex, At: s.at("bb"), Name: "bb", Args: []api.Expr{s.num("10", 10)}},
		}},
	}}
	joined := api.Expr{Kind: api.EConcat, At: s.at("{cc"), Args: []api.Expr{
		{Kind: api.EPart, At: s.at("cc"), Name: "cc", Args: []api.Expr{s.num("21", 21), s.num("22", 22)}},
		{Kind: api.ENum, At: s.at("7'd31"), Num: 31, Width: 7},
	}}
	repeated := api.Expr{Kind: api.ERepeat, At: s.at("{42"), Args: []api.Expr{
		s.num("42", 42),
		{Kind: api.EConcat, At: s.at("{dd"), Args: []api.Expr{s.name("dd"), s.name("ee")}},
	}}
	want := api.Expr{Kind: api.ECond, At: s.at("?"), Args: []api.Expr{sum, joined, repeated}}
	same(t, text, read(t, text)[0].Items[0].Value, want)
}

func TestPlacesOfModules(t *testing.T) {
	text := " module mm #(PP = 10, QQ = 11) (input aa, output [12:13] bb, output reg cc); endmodule\n /**/ module nn(); endmodule"
	s := spots(text)
	want := []api.Module{{
		Name: "mm",
		At:   1,
		Params: []api.Bind{
			{Name: "PP", At: s.at("PP"), Given: true, Value: s.num("10", 10)},
			{Name: "QQ", At: s.at("QQ"), Given: true, Value: s.num("11", 11)},
		},
		Ports: []api.Port{
			{Name: "aa", At: s.at("aa")},
			{Name: "bb", At: s.at("bb"), Out: true, Range: api.Range{On: true, Hi: s.num("12", 12), Lo: s.num("13", 13)}},
			{Name: "cc", At: s.at("cc"), Out: true, Reg: true},
		},
	}, {Name: "nn", At: s.at("module nn")}}
	same(t, text, read(t, text), want)
}

func TestPlacesOfDeclarations(t *testing.T) {
	text := "module m (); wire [10:11] aa, bb = 12, cc; reg [13:14] dd, ee = 15, ff [16:17]; localparam gg = 18; assign {hh, {ii[19]}} = 20; endmodule"
	s := spots(text)
	wide := api.Range{On: true, Hi: s.num("10", 10), Lo: s.num("11", 11)}
	deep := api.Range{On: true, Hi: s.num("13", 13), Lo: s.num("14", 14)}
	want := []api.Item{
		{Kind: api.IWire, At: s.at("aa"), Name: "aa", Range: wide},
		{Kind: api.IWire, At: s.at("bb"), Name: "bb", Range: wide},
		{Kind: api.IAssign, At: s.at("bb"), Target: s.name("bb"), Value: s.num("12", 12)},
		{Kind: api.IWire, At: s.at("cc"), Name: "cc", Range: wide},
		{Kind: api.IReg, At: s.at("dd"), Name: "dd", Range: deep},
		{Kind: api.IReg, At: s.at("ee"), Name: "ee", Range: deep, Given: true, Value: s.num("15", 15)},
		{Kind: api.IMemory, At: s.at("ff"), Name: "ff", Range: deep, Words: api.Range{On: true, Hi: s.num("16", 16), Lo: s.num("17", 17)}},
		{Kind: api.IParam, At: s.at("localparam"), Name: "gg", Value: s.num("18", 18)},
		{Kind: api.IAssign, At: s.at("assign"), Value: s.num("20", 20), Target: api.Expr{Kind: api.EConcat, At: s.at("{hh"), Args: []api.Expr{
			s.name("hh"),
			{Kind: api.EConcat, At: s.at("{ii"), Args: []api.Expr{{Kind: api.EIndex, At: s.at("ii"), Name: "ii", Args: []api.Expr{s.num("19", 19)}}}},
		}}},
	}
	same(t, text, read(t, text)[0].Items, want)
}

func TestPlacesOfParts(t *testing.T) {
	text := "module m (); uu #(.PP(10), .QQ(11)) vv (.aa(12), .bb()); for (ww = 13; 14; ww = 15) begin : xx yy zz (); end if (16) begin : cc end else begin : dd wire ee; end endmodule"
	s := spots(text)
	want := []api.Item{
		{
			Kind: api.IUse, At: s.at("uu"), Name: "vv", Module: "uu",
			Params: []api.Bind{{Name: "PP", At: s.at(".PP"), Given: true, Value: s.num("10", 10)}, {Name: "QQ", At: s.at(".QQ"), Given: true, Value: s.num("11", 11)}},
			Ports:  []api.Bind{{Name: "aa", At: s.at(".aa"), Given: true, Value: s.num("12", 12)}, {Name: "bb", At: s.at(".bb")}},
		},
		{
			Kind: api.IFor, At: s.at("for"), Name: "ww", Label: "xx",
			Exprs: []api.Expr{s.num("13", 13), s.num("14", 14), s.num("15", 15)},
			Items: []api.Item{{Kind: api.IUse, At: s.at("yy"), Name: "zz", Module: "yy"}},
		},
		{
			Kind: api.IIf, At: s.at("if"), Value: s.num("16", 16), Label: "cc",
			HasElse: true, ElseLabel: "dd", Else: []api.Item{{Kind: api.IWire, At: s.at("ee"), Name: "ee"}},
		},
	}
	same(t, text, read(t, text)[0].Items, want)
	alone := "module m (); if (1) begin : x end endmodule"
	if i := read(t, alone)[0].Items[0]; i.HasElse || i.ElseLabel != "" || i.Else != nil {
		t.Errorf("%s: %+v", alone, i)
	}
}

func TestPlacesOfStatements(t *testing.T) {
	text := "module m (); always @clk begin ; if (10) aa = 11; if (12) {bb} <= 13; else begin end case (14) 15, 16: cc = 17; default dd = 18; endcase for (ii = 19; 20; ii = 21) ee[22] = 23; end always @* ff = 24; endmodule"
	s := spots(text)
	set := func(name, num string, value uint64) api.Stmt {
		return api.Stmt{Kind: api.SSet, At: s.at(name), Exprs: []api.Expr{s.name(name), s.num(num, value)}}
	}
	braces := api.Expr{Kind: api.EConcat, At: s.at("{bb"), Args: []api.Expr{s.name("bb")}}
	bit := api.Expr{Kind: api.EIndex, At: s.at("ee"), Name: "ee", Args: []api.Expr{s.num("22", 22)}}
	want := []api.Item{
		{Kind: api.IAlways, At: s.at("always @clk"), Clocked: true, Body: api.Stmt{Kind: api.SBlock, At: s.at("begin ;"), Stmts: []api.Stmt{
			{Kind: api.SNone, At: s.at("; if (10")},
			{Kind: api.SIf, At: s.at("if (10"), Exprs: []api.Expr{s.num("10", 10)}, Stmts: []api.Stmt{set("aa", "11", 11)}},
			{Kind: api.SIf, At: s.at("if (12"), Exprs: []api.Expr{s.num("12", 12)}, Stmts: []api.Stmt{
				{Kind: api.SSet, At: s.at("{bb"), Later: true, Exprs: []api.Expr{braces, s.num("13", 13)}},
				{Kind: api.SBlock, At: s.at("begin end")},
			}},
			{Kind: api.SCase, At: s.at("case (14"), Exprs: []api.Expr{s.num("14", 14)}, Arms: []api.Arm{
				{Labels: []api.Expr{s.num("15", 15), s.num("16", 16)}, Body: set("cc", "17", 17)},
				{Default: true, Body: set("dd", "18", 18)},
			}},
			{
				Kind: api.SFor, At: s.at("for"), Name: "ii", Exprs: []api.Expr{s.num("19", 19), s.num("20", 20), s.num("21", 21)},
				Stmts: []api.Stmt{{Kind: api.SSet, At: s.at("ee"), Exprs: []api.Expr{bit, s.num("23", 23)}}},
			},
		}}},
		{Kind: api.IAlways, At: s.at("always @*"), Body: set("ff", "24", 24)},
	}
	same(t, text, read(t, text)[0].Items, want)
}

func TestNearestIf(t *testing.T) {
	text := "module m (); always @* if (a) for (i = 0; i; i = i) if (b) ; else if (c) ; else ; endmodule"
	outer := read(t, text)[0].Items[0].Body
	inner := outer.Stmts[0].Stmts[0]
	if len(outer.Stmts) != 1 || len(inner.Stmts) != 2 || len(inner.Stmts[1].Stmts) != 2 {
		t.Errorf("%+v", outer)
	}
}

func TestPrintForms(t *testing.T) {
	for _, c := range []struct{ text, want string }{
		{"input a,input[3:0]b,output c,output[1:0]d,output reg e,output reg[P-1:0]f", "input a, input [3:0] b, output c, output [1:0] d, output reg e, output reg [P - 1:0] f"},
		{"", ""},
	} {
		got := Print(read(t, "module m("+c.text+");endmodule"))
		if want := "module m (" + c.want + ");\nendmodule\n"; got != want {
			t.Errorf("%q, want %q", got, want)
		}
	}
	for _, c := range []struct{ text, want string }{
		{"wire a,b=1;", "wire a;\nwire b;\nassign b = 1;\n"},
		{"wire[7:0]a=b+1,c;", "wire [7:0] a;\nassign a = b + 1;\nwire [7:0] c;\n"},
		{"reg a;reg[1:0]b=~c,d[0:3+1];", "reg a;\nreg [1:0] b = ~c;\nreg [1:0] d [0:3 + 1];\n"},
		{"localparam K=a?b:c;", "localparam K = a ? b : c;\n"},
		{"assign{a,b[1]}=c[2:1];", "assign {a, b[1]} = c[2:1];\n"},
		{"always@*;always@clk a<=b<=c;", "always @* ;\nalways @clk a <= b <= c;\n"},
		{"always@*begin end", "always @* begin end\n"},
		{"always@*begin begin;;end end", "always @* begin begin ; ; end end\n"},
		{"always@*if(a);else;", "always @* if (a) ; else ;\n"},
		{"always@*if(a)begin if(b);end else;", "always @* if (a) begin if (b) ; end else ;\n"},
		{"always@*case(a)endcase", "always @* case (a) endcase\n"},
		{"always@*case(a+1)default;b?c:d,{e}:f=1;endcase", "always @* case (a + 1) default: ; b ? c : d, {e}: f = 1; endcase\n"},
		{"always@*for(i=0;i<2;i=i+1)a[i]=1;", "always @* for (i = 0; i < 2; i = i + 1) a[i] = 1;\n"},
		{"u v();u v(.a());u#(.P(1+2),.Q({a}))v(.a(~b),.c());", "u v ();\nu v (.a());\nu #(.P(1 + 2), .Q({a})) v (.a(~b), .c());\n"},
		{"for(i=0;i<2;i=i+1)begin:b wire a;if(i)begin:c end end", "for (i = 0; i < 2; i = i + 1) begin : b\nwire a;\nif (i) begin : c\nend\nend\n"},
		{"if(a)begin:b wire c;end else begin:d reg e;end", "if (a) begin : b\nwire c;\nend else begin : d\nreg e;\nend\n"},
	} {
		got := Print(read(t, "module m #(P=1,Q=P*2)();"+c.text+" endmodule module n();endmodule"))
		if want := "module m #(P = 1, Q = P * 2) ();\n" + c.want + "endmodule\nmodule n ();\nendmodule\n"; got != want {
			t.Errorf("%s:\n%s\nwant\n%s", c.text, got, want)
		}
	}
	if got := Print(nil); got != "" {
		t.Errorf("of nothing: %q", got)
	}
}

// Trees that no text has are not to bring Print down.
func TestPrintOfOtherTrees(t *testing.T) {
	for kind := range 12 {
		Print([]api.Module{{Items: []api.Item{{Kind: kind}}}})
		Print([]api.Module{{Items: []api.Item{{Kind: api.IAlways, Body: api.Stmt{Kind: kind}}}}})
		Print([]api.Module{{Items: []api.Item{{Kind: api.IAssign, Value: api.Expr{Kind: kind}}}}})
	}
}

// lists gathers the lists of an answer, each by its first element's address; it tells of one that is met twice.
func lists(t *testing.T, v reflect.Value, met map[uintptr]bool) {
	switch v.Kind() {
	case reflect.Slice:
		if v.Len() > 0 {
			if met[v.Pointer()] {
				t.Errorf("a list of %d stands twice in the answer", v.Len())
			}
			met[v.Pointer()] = true
		}
		for i := range v.Len() {
			lists(t, v.Index(i), met)
		}
	case reflect.Struct:
		for i := range v.NumField() {
			lists(t, v.Field(i), met)
		}
	}
}

func TestListsAreNotShared(t *testing.T) {
	text := "module m #(P = a + 1) (input [P - 1:~P] i); wire [P + 1:{0}] a, b = 1 + 2, c; reg [P * ~2:P - 1] d, e = 1 + 1, f [0:P + P], g; for (j = 0 + 1; j < 2; j = j + 1) begin : x wire [~j:-j] h, k; end endmodule"
	ms := read(t, text)
	lists(t, reflect.ValueOf(ms), map[uintptr]bool{})
}

// A long range ahead of many names must not fill the memory.
func TestLongRangeOfManyNames(t *testing.T) {
	text := "module m (); wire [" + strings.Repeat("a+", 14000) + "1:0] n" + strings.Repeat(",n", 14000) + "; endmodule"
	var before, behind runtime.MemStats
	runtime.ReadMemStats(&before)
	if ms := read(t, text); len(ms[0].Items) != 14001 {
		t.Errorf("%d items", len(ms[0].Items))
	}
	runtime.ReadMemStats(&behind)
	if taken := behind.TotalAlloc - before.TotalAlloc; taken > 1<<30 {
		t.Errorf("%d bytes taken", taken)
	}
}

// Whatever stands within one another as deep as a text may be long is read, and printed.
func TestDeep(t *testing.T) {
	for _, c := range []struct{ ahead, open, mid, shut, behind string }{
		{"module m (); assign a = ", "(", "b", ")", "; endmodule"},
		{"module m (); assign a = ", "{", "b", "}", "; endmodule"},
		{"module m (); assign a = ", "~", "b", "", "; endmodule"},
		{"module m (); assign a = ", "b+", "b", "", "; endmodule"},
		{"module m (); assign a = ", "b?b:", "b", "", "; endmodule"},
		{"module m (); assign a = ", "b?", "b", ":b", "; endmodule"},
		{"module m (); assign a = ", "b[", "b", "]", "; endmodule"},
		{"module m (); assign a = ", "{1{", "b", "}}", "; endmodule"},
		{"module m (); assign ", "{", "b", "}", " = 1; endmodule"},
		{"module m (); always @* ", "if(a)", ";", "", " endmodule"},
		{"module m (); always @* ", "if(a);else ", ";", "", " endmodule"},
		{"module m (); always @* ", "begin ", "", "end ", " endmodule"},
		{"module m (); always @* ", "case(a)1:", ";", "endcase ", " endmodule"},
		{"module m (); always @* ", "for(i=0;0;i=0)", ";", "", " endmodule"},
		{"module m (); ", "if(1)begin:x ", "", "end ", " endmodule"},
		{"module m (); ", "for(i=0;0;i=0)begin:x ", "", "end ", " endmodule"},
	} {
		n := (api.MaxText - len(c.ahead+c.mid+c.behind)) / len(c.open+c.shut)
		text := c.ahead + strings.Repeat(c.open, n) + c.mid + strings.Repeat(c.shut, n) + c.behind
		if got := Print(read(t, text)); len(got) < n && c.open != "(" {
			t.Errorf("%s: %d bytes printed", c.open, len(got))
		}
		open := c.ahead + strings.Repeat(c.open, n)
		wantFault(t, open, len(open))
	}
}
