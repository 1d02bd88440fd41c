package elab

import (
	"reflect"
	"strings"
	"testing"
	"unsafe"

	"gatewright/api"
	"gatewright/parse"
)

// build gives the design of a text that must have one.
func build(t *testing.T, text string) api.Design {
	t.Helper()
	d, err := Design(modules(t, text), "m")
	if err != nil {
		code, at := api.Code(err)
		t.Fatalf("%.300q: fault %d at %d", text, code, at)
	}
	checkValid(t, d)
	return d
}

func TestExampleOfTheDocument(t *testing.T) {
	ms := modules(t, "module one #(W = 4) (input [W - 1:0] a, input en, output [W - 1:0] q, output odd); reg [W - 1:0] r = 5; assign q = r + (en ? a : 1); assign odd = ^r; always @clk if (en) r <= r + a; endmodule")
	d, err := Design(ms, "one")
	if err != nil {
		t.Fatal(err)
	}
	checkValid(t, d)
	want := []api.Net{{Name: "a", Width: 4, Dir: 1}, {Name: "en", Width: 1, Dir: 1}, {Name: "q", Width: 4, Dir: 2}, {Name: "odd", Width: 1, Dir: 2}, {Name: "r", Width: 4, Init: 5}}
	if !reflect.DeepEqual(d.Nets, want) || len(d.Procs) != 3 || d.Procs[0].Clocked || d.Procs[1].Clocked || !d.Procs[2].Clocked {
		t.Errorf("%+v", d)
	}
	if !reflect.DeepEqual(d.Inputs, []int{0, 1}) || !reflect.DeepEqual(d.Outputs, []int{2, 3}) {
		t.Errorf("inputs %v, outputs %v", d.Inputs, d.Outputs)
	}
	if unsafe.StringData(d.Nets[0].Name) == unsafe.StringData(ms[0].Ports[0].Name) {
		t.Error("a name is shared with what was handed in")
	}
}

// named lists the nets' names.
func named(d api.Design) string {
	var all []string
	for _, n := range d.Nets {
		all = append(all, n.Name)
	}
	return strings.Join(all, " ")
}

func TestNamesOfNets(t *testing.T) {
	for _, c := range []struct{ text, want string }{
		{"module m (); endmodule", ""},
		{"module m (output q, input a); wire w; reg r; reg s [0:3]; wire x, y = 1; endmodule", "q a w r s x y"},
		{"module k (input x); wire w; endmodule module m (input a); k u (.x(a)); wire b; k v (); endmodule", "a u.x u.w b v.x v.w"},
		{"module m (); if (1) begin : y wire a; end else begin : n wire b; end if (0) begin : o wire c; end else begin : p wire d; end if (0) begin : q wire e; end endmodule", "y.a p.d"},
		{"module m (); for (i = 5; i < 11; i = i + 3) begin : L wire a; if (i == 8) begin : K wire b; end end wire c; endmodule", "L[5].a L[8].a L[8].K.b c"},
		{"module m (); for (i = 2; i; i = i - 1) begin : L for (j = i; j <= i; j = j + 1) begin : K wire a; end end endmodule", "L[2].K[2].a L[1].K[1].a"},
		{"module m (); for (i = 0 - 1; i; i = i + 1) begin : L wire a; end endmodule", "L[4294967295].a"},
		{"module m (); for (i = 0; i < 2; i = i + 1) begin : i wire a; for (i = 7; i < 8; i = i + 1) begin : K wire a; end end endmodule", "i[0].a i[0].K[7].a i[1].a i[1].K[7].a"},
		{"module k (); if (1) begin : P wire a; end endmodule module m (); for (i = 0; i < 2; i = i + 1) begin : L k u (); end endmodule", "L[0].u.P.a L[1].u.P.a"},
		{"module m #(D = 2) (); wire a; if (D) begin : L m #(.D(D - 1)) u (); end endmodule", "a L.u.a L.u.L.u.a"},
	} {
		if got := named(build(t, c.text)); got != c.want {
			t.Errorf("%s: %s, want %s", c.text, got, c.want)
		}
	}
}

func TestNets(t *testing.T) {
	d := build(t, "module k #(P = 2, Q = P + 1) (input [P:0] a, output reg [Q:0] b); endmodule module m #(N = 3) (input [N:0] a, output reg b); k #(.P(N * N)) u (); k #(.Q(0)) v (); reg [3:0] r = 255, s = 16, z; reg [31:0] t = ~0, mem [0:255], one [0:0]; wire [31:0] w; endmodule")
	want := []api.Net{
		{Name: "a", Width: 4, Dir: 1}, {Name: "b", Width: 1, Dir: 2},
		{Name: "u.a", Width: 10}, {Name: "u.b", Width: 11}, {Name: "v.a", Width: 3}, {Name: "v.b", Width: 1},
		{Name: "r", Width: 4, Init: 15}, {Name: "s", Width: 4}, {Name: "z", Width: 4}, {Name: "t", Width: 32, Init: 1<<32 - 1},
		{Name: "mem", Width: 32, Words: 256}, {Name: "one", Width: 32, Words: 1}, {Name: "w", Width: 32},
	}
	if !reflect.DeepEqual(d.Nets, want) {
		t.Errorf("%+v", d.Nets)
	}
	if len(d.Procs) != 0 {
		t.Errorf("processes %+v", d.Procs)
	}
}

// aims tells which net each process sets first; -1: none.
func aims(d api.Design) []int {
	var all []int
	for _, p := range d.Procs {
		if len(p.Acts) == 0 {
			all = append(all, -1)
		} else {
			all = append(all, p.Acts[0].To[0].Net)
		}
	}
	return all
}

func TestOrderOfProcesses(t *testing.T) {
	d := build(t, "module k (input i, output o); wire w = i; assign o = w; endmodule module m (input a, output b); wire x = a; k u (.o(b), .i(x)); reg r; always @* ; if (1) begin : L always @clk r <= 1; end for (i = 0; i < 2; i = i + 1) begin : K wire y; assign y = i; end assign x = 0; endmodule")
	// The nets: a b x u.i u.o u.w r K[0].y K[1].y
	if got, want := aims(d), []int{2, 5, 4, 1, 3, -1, 6, 7, 8, 2}; !reflect.DeepEqual(got, want) {
		t.Errorf("%v, want %v", got, want)
	}
	for i, p := range d.Procs {
		if p.Clocked != (i == 6) {
			t.Errorf("process %d: %v", i, p.Clocked)
		}
	}
}

func TestLoopsGoTurnByTurn(t *testing.T) {
	d := build(t, "module m (output reg [7:0] q); always @* for (i = 0; i < 8; i = i + 3) for (i = i; i < 8; i = i + 4) q[i] = i; endmodule")
	var got []int
	for _, a := range d.Procs[0].Acts {
		got = append(got, a.To[0].Lo)
	}
	if want := []int{0, 4, 3, 7, 6}; !reflect.DeepEqual(got, want) {
		t.Errorf("%v, want %v", got, want)
	}
}

// shape writes acts down: i(..)(..) of an if, a letter of a set.
func shape(d api.Design, acts []api.Act) string {
	text := ""
	for _, a := range acts {
		if a.Kind == api.AIf {
			text += "i(" + shape(d, a.Then) + ")(" + shape(d, a.Else) + ")"
		} else {
			text += d.Nets[a.To[0].Net].Name
		}
	}
	return text
}

func TestShapes(t *testing.T) {
	for _, c := range []struct{ stmt, want string }{
		{";", ""},
		{"begin x = 1; y = 1; begin end begin z = 1; end end", "xyz"},
		{"if (a) x = 1;", "i(x)()"},
		{"if (a) ; else ;", "i()()"},
		{"if (0) x = 1; else begin y = 1; z = 1; end", "i(x)(yz)"},
		{"case (a) 1: x = 1; 2, 3: y = 1; endcase", "i(x)(i(y)())"},
		{"case (a) 1: x = 1; 2: y = 1; default: z = 1; endcase", "i(x)(i(y)(z))"},
		{"case (a) default: z = 1; 1: x = 1; 2: y = 1; endcase", "i(x)(i(y)(z))"},
		{"case (a) 1: x = 1; default z = 1; 2: y = 1; endcase", "i(x)(i(y)(z))"},
		{"case (a) default: z = 1; endcase", "z"},
		{"case (a) endcase", ""},
		{"case (a) 1: ; endcase", "i()()"},
	} {
		d := build(t, "module m (input [3:0] a); reg x, y, z; always @* "+c.stmt+" endmodule")
		if got := shape(d, d.Procs[0].Acts); got != c.want {
			t.Errorf("%s: %s, want %s", c.stmt, got, c.want)
		}
	}
}

// around puts n opening texts ahead of a middle, and n closing ones behind it.
func around(n int, open, middle, end string) string {
	return strings.Repeat(open, n) + middle + strings.Repeat(end, n)
}

func TestDeepTexts(t *testing.T) {
	for _, value := range []string{
		around(55000, "~", "a", ""),
		around(27000, "& ", "a", ""),
		around(19000, "a[", "a", "]"),
		around(19000, "h[", "a", "]"),
		around(11000, "{1{", "b", "}}"),
		around(9000, "^{2{", "b", "}}"),
		around(8000, "^{32{", "b", "}}"),
		around(20000, "{", "a", "}"),
		around(5, "{2{", "1'd1", "}}"),
		around(14000, "a+", "a", ""),
		around(14000, "1?a:", "a", ""),
		around(9000, "a?", "a", ":a"),
		around(11000, "a[1+", "a", "]"),
		around(8000, "a[1?1:", "a", "]"),
	} {
		build(t, "module m (input [3:0] a, input b, output [3:0] q); reg [3:0] h [0:3]; assign q = "+value+"; endmodule")
	}
	for _, stmt := range []string{
		around(5000, "begin ", "q = 1;", " end"),
		around(3000, "begin q = 1; ", "q = 1;", " end"),
		around(8000, "if(a)", "q = 1;", ""),
		around(3000, "if(a) q = 1; else ", "q = 1;", ""),
		around(1500, "case (a) 1: q = 1; default ", "q = 1;", " endcase"),
		around(1000, "for (i = 0; i < 1; i = i + 1) ", "q = 1;", ""),
	} {
		build(t, "module m (input [3:0] a, output reg [3:0] q); always @* "+stmt+" endmodule")
	}
	for _, item := range []string{
		around(2000, "if (1) begin : L ", "wire w;", " end"),
		around(1000, "for (i = 0; i < 1; i = i + 1) begin : L ", "wire w;", " end"),
	} {
		build(t, "module m (); "+item+" endmodule")
	}
}

// TestLongCase: what is looked at is not written down for each label for ever.
func TestLongCase(t *testing.T) {
	d, err := Design(modules(t, "module m (input a, output reg q); always @* case ("+around(28000, "~", "a", "")+") "+strings.Repeat("1,", 15000)+"1: q = 1; endcase endmodule"), "m")
	if err != nil || len(d.Procs) != 1 || len(d.Procs[0].Acts) != 1 {
		t.Errorf("%v, %d processes", err, len(d.Procs))
	}
}

// TestSpoiledTexts: whatever Text reads has a valid design or a fault, the same each time.
func TestSpoiledTexts(t *testing.T) {
	const text = "module k #(P = 3, Q = P) (input [P:0] a, output reg [Q:0] b, output c); assign c = ^a; always @* b = a + P; endmodule " +
		"module m #(N = 2) (input [3:0] a, input b, output [3:0] q, output reg p); wire [7:0] w; reg [3:0] r = 5, s [0:4]; localparam K = N * 2; " +
		"for (i = 0; i < N; i = i + 1) begin : g k #(.P(i), .Q(K)) u (.a(a), .b(w[3:0]), .c({w[i + 4]})); end if (N > 1) begin : yes wire x = b ? a[b] : s[a]; end else begin : no assign q = 1; end " +
		"always @clk begin if (b) r <= r + {2{b}}; else s[a] <= {a[1:0], b, 1'd1}; for (j = 0; j < 4; j = j + 1) r[j] <= a[3 - j]; end " +
		"always @* case (a) 1, 2: p = 1; default: p = a < r && !b; endcase assign q = w; endmodule"
	words := strings.Fields(text)
	faults := map[int]int{}
	for i := range words {
		for k := range words {
			mixed := append([]string{}, words...)
			mixed[i] = words[k]
			ms, err := parse.Text(strings.Join(mixed, " "))
			if err != nil {
				continue
			}
			d, err := Design(ms, "m")
			code, _ := api.Code(err)
			faults[code]++
			if err == nil {
				checkValid(t, d)
			} else if code <= 0 || !reflect.DeepEqual(d, api.Design{}) {
				t.Fatalf("%v beside a design", err)
			}
			again, err := Design(ms, "m")
			if c, _ := api.Code(err); c != code || !reflect.DeepEqual(d, again) {
				t.Fatal("another answer")
			}
		}
	}
	if faults[0] < 100 || len(faults) < 6 {
		t.Errorf("faults %v", faults)
	}
}

// TestOtherTrees: what Text does not give ends in a fault, or in nothing.
func TestOtherTrees(t *testing.T) {
	item := func(i api.Item) []api.Module { return []api.Module{{Name: "m", Items: []api.Item{i}}} }
	for _, ms := range [][]api.Module{
		item(api.Item{Kind: api.IAssign}),
		item(api.Item{Kind: api.IFor}),
		item(api.Item{Kind: api.IIf}),
		item(api.Item{Kind: api.IAlways, Body: api.Stmt{Kind: api.SSet}}),
		item(api.Item{Kind: api.IAlways, Body: api.Stmt{Kind: api.SIf}}),
		item(api.Item{Kind: api.IAlways, Body: api.Stmt{Kind: api.SFor}}),
		item(api.Item{Kind: api.IParam, Value: api.Expr{Kind: api.EBinary, Args: make([]api.Expr, 7)}}),
		item(api.Item{Kind: 99}),
		{{}},
	} {
		if d, err := Design(ms, "m"); err != nil && !reflect.DeepEqual(d, api.Design{}) {
			t.Error("a design beside a fault")
		}
	}
}
