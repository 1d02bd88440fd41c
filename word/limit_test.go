package word

import (
	"fmt"
	"math/rand"
	"reflect"
	"strings"
	"testing"

	"gatewright/api"
	"gatewright/sim"
)

// mostSure is how many nodes the expressions of a design may have where FBig must not be told.
const mostSure = 3000

func sizeOf(x *api.Exp) int {
	n := 1
	for i := range x.Args {
		n += sizeOf(&x.Args[i])
	}
	return n
}

func sizeOfActs(acts []api.Act) int {
	n := 0
	for i := range acts {
		a := &acts[i]
		if a.Kind == api.AIf {
			n += sizeOf(&a.If) + sizeOfActs(a.Then) + sizeOfActs(a.Else)
			continue
		}
		n += sizeOf(&a.Value)
		for k := range a.To {
			if a.To[k].Dyn {
				n += sizeOf(&a.To[k].Index)
			}
		}
	}
	return n
}

func sizeOfDesign(d *api.Design) int {
	n := 0
	for p := range d.Procs {
		n += sizeOfActs(d.Procs[p].Acts)
	}
	return n
}

// mustFit looks at a design that is nearly as large as may be where FBig must not be told.
func mustFit(t *testing.T, name, text string) {
	t.Helper()
	t.Run(name, func(t *testing.T) {
		d := designOf(t, text)
		size := sizeOfDesign(&d)
		if size < mostSure*2/3 || size > mostSure {
			t.Fatalf("the expressions have %d nodes", size)
		}
		n := shows(t, name, d, traceOf(rand.New(rand.NewSource(16)), &d, 6))
		t.Logf("%d nodes of expressions, %d of the netlist", size, len(n.Nodes))
	})
}

// list32 writes a name 32 times, with numbers behind it.
func list32(name string, from int, tail string) string {
	var all []string
	for i := range 32 {
		all = append(all, fmt.Sprint(name, from+i, tail))
	}
	return strings.Join(all, ",")
}

func repeat(count int, format func(i int) string) string {
	var b strings.Builder
	for i := range count {
		b.WriteString(format(i))
	}
	return b.String()
}

// uses puts a module t, with the ports c, v, o, into a whole so often.
func uses(count int) string {
	return "module m (input [31:0] c, input [31:0] v, output [31:0] q);" +
		repeat(count, func(i int) string {
			return fmt.Sprintf("wire [31:0] o%d; t t%d (.c(c + %d), .v(v ^ %d), .o(o%d));", i, i, i, i*i*77, i)
		}) + "assign q = 0" + repeat(count, func(i int) string { return fmt.Sprint(" ^ o", i) }) + "; endmodule"
}

// TestNested: ifs within ifs, with sets at each level, or many at the innermost one.
func TestNested(t *testing.T) {
	nets := "reg [31:0] x; reg [31:0] y; reg [31:0] z; assign q = x ^ y ^ z;"
	stairs := func(set string) string {
		return repeat(950, func(i int) string {
			return fmt.Sprintf("if(c[%d])begin %c%s%d;", i%32, 'x'+rune(i%3), set, i*i)
		}) + strings.Repeat("end ", 950)
	}
	mustFit(t, "stairs beside the clock", "module m (input [31:0] c, output [31:0] q);"+nets+"always @* begin x = 1; y = 2; z = 3; "+stairs("=")+"end endmodule")
	mustFit(t, "stairs at the clock", "module m (input [31:0] c, output [31:0] q);"+nets+"always @clk begin "+stairs("<=")+"end endmodule")
	mustFit(t, "stairs, both ways", "module m (input [31:0] c, output [31:0] q);"+nets+"always @* begin x = 1; y = 2; z = 3; "+
		repeat(490, func(i int) string {
			return fmt.Sprintf("if(c[%d])begin %c=%d;", i%32, 'x'+rune(i%3), i*i)
		})+repeat(490, func(i int) string { return fmt.Sprintf("end else %c=%c+%d;", 'x'+rune(i%3), 'x'+rune(i%2), i) })+"end endmodule")
	mustFit(t, "many at the innermost", "module m (input [31:0] c, output [31:0] q);"+
		repeat(700, func(i int) string { return fmt.Sprintf("reg x%d;", i) })+
		"assign q[30:0] = 0 "+repeat(350, func(i int) string { return fmt.Sprintf("+x%d", 2*i) })+"; always @clk begin "+
		repeat(230, func(i int) string { return fmt.Sprintf("if(c[%d]|x0)", i%32) })+"begin "+
		repeat(500, func(i int) string { return fmt.Sprintf("x%d<=%d;", i, i%3) })+"end end endmodule")
}

// TestChains: one if in the else of the other.
func TestChains(t *testing.T) {
	mustFit(t, "bits", "module m (input [31:0] c, input [31:0] v, output [31:0] q); reg [31:0] x; reg [31:0] y; assign q = x ^ y; always @* begin x = 0; y = 0; "+
		repeat(740, func(i int) string {
			return fmt.Sprintf("if (c[%d]) %c[%d] = v[%d]; else ", i%32, 'x'+rune(i%2), i*7%32, i%32)
		})+"; end endmodule")
	mustFit(t, "a case", "module m (input [15:0] c, output [31:0] q); reg [31:0] x; reg [31:0] y; assign q = x - y; always @clk case (c) "+
		repeat(420, func(i int) string { return fmt.Sprintf("%d: begin x <= %d; y[%d] <= 1; end ", i, i*i, i%32) })+"default: x <= 1; endcase endmodule")
}

// TestBraces: many bits are set at one time.
func TestBraces(t *testing.T) {
	bits := "{" + list32("r", 0, "") + "}"
	mustFit(t, "the same ones", "module m (input [7:0] a, input [31:0] v, output [31:0] q); reg [31:0] k [0:255]; "+
		repeat(32, func(i int) string { return fmt.Sprintf("reg r%d;", i) })+
		"assign q = "+bits+"; always @clk begin k[a] <= v; for (i = 0; i < 190; i = i + 1) begin if (v[i & 31]) "+bits+" <= k[i]; if (a[i & 7]) "+bits+" <= v; if (a[3]) begin {r31,"+strings.TrimSuffix(list32("r", 0, ""), ",r31")+"} <= {r5, r3, v[7:0]}; end end end endmodule")
	mustFit(t, "rows and columns", "module t (input [31:0] c, input [31:0] v, output [31:0] o); reg [31:0] k [0:31];"+
		repeat(32, func(i int) string { return fmt.Sprintf("reg [31:0] a%d;", i) })+
		"assign o = 0"+repeat(32, func(i int) string { return fmt.Sprintf("^a%d", i) })+
		"; always @clk begin k[v] <= v; if (c) for (i = 0; i < 32; i = i + 1) {"+list32("a", 0, "[i]")+"} <= k[i]; end endmodule "+uses(19))
}

// TestIndices: bits and words by indices.
func TestIndices(t *testing.T) {
	mustFit(t, "bits", "module m (input [31:0] c, input [4:0] i, input [4:0] j, output [31:0] q); reg [31:0] x; assign q = x; always @clk begin for (k = 0; k < 220; k = k + 1) begin if (c[3]) x[i] <= c[5]; if (c[k & 31]) x[j + k] <= c[k & 31]; end end endmodule")
	mustFit(t, "cut bits", "module m (input [31:0] c, input [4:0] i, output [31:0] q); reg [31:0] x; assign q = x; always @* begin x = 0; for (k = 0; k < 240; k = k + 1) begin {x[k & 31], x[(k + 5) & 31], x[i], x[31:30], x[c]} = c + k; x[i] = x[c]; end end endmodule")
	mustFit(t, "words", "module m (input [31:0] c, input [4:0] i, output [31:0] q); reg [31:0] x [0:255]; assign q = x[i] + x[c]; always @clk begin for (k = 0; k < 190; k = k + 1) begin if (c[k & 31]) x[i + k] <= x[k] + c; else x[c] <= k; end end endmodule")
}

// TestLarge: designs beyond what must fit.
func TestLarge(t *testing.T) {
	r := rand.New(rand.NewSource(18))
	for name, text := range map[string]string{
		"deep":       "module m (input a, output q); assign q = " + strings.Repeat("~", 59000) + "a; endmodule",
		"long":       "module m (input [7:0] a, output [7:0] q); assign q = " + strings.Repeat("a+", 29000) + "a; endmodule",
		"long case":  "module m (input [7:0] a, output reg q); always @* case (" + strings.Repeat("a+", 4000) + "a) " + strings.Repeat("7,", 4000) + "12003: q = 1; default: q = 0; endcase endmodule",
		"long arms":  "module m (input [7:0] a, output reg [7:0] q); reg [7:0] r; always @* begin q = 0; case (" + strings.Repeat("a+", 5000) + "a) " + repeat(1400, func(i int) string { return fmt.Sprintf("%d:begin r=%d;q=r;end ", i, i%7) }) + "default: r = 0; endcase end endmodule",
		"deep acts":  "module m (input a, input b, output reg q); always @* begin " + strings.Repeat("if (a) ", 2500) + "q = b; " + strings.Repeat("else q = 0; ", 2500) + "end endmodule",
		"many nets":  "module m (input a, input [9:0] b, output [31:0] q); " + repeat(1900, func(i int) string { return fmt.Sprintf("reg x%d;", i) }) + "assign q = x0 + x1899; always @clk begin " + strings.Repeat("if(a)", 2000) + "begin " + repeat(1900, func(i int) string { return fmt.Sprintf("x%d<=1;", i) }) + "end end endmodule",
		"long chain": "module m (input [7:0] a, output [7:0] q); wire [7:0] w0; wire [7:0] w1; " + "assign q = w1; if (1) begin : g0 " + repeat(1000, func(i int) string { return fmt.Sprintf("wire [7:0] x%d;", i) }) + "assign w1 = x999; " + repeat(999, func(i int) string { return fmt.Sprintf("assign x%d = x%d + 1;", 999-i, 998-i) }) + "assign x0 = a; end endmodule",
	} {
		t.Run(name, func(t *testing.T) {
			d := designOf(t, text)
			n, err := Lower(d)
			if err != nil || !Valid(n) {
				t.Fatalf("%d nodes, %v", len(n.Nodes), err)
			}
			trace := traceOf(r, &d, 2)
			want, err := sim.Run(d, trace, nil)
			if got := Run(n, trace); err != nil || !reflect.DeepEqual(got, want) {
				t.Errorf("%v, want %v", got, want)
			}
		})
	}
}

// TestTooLarge: more nodes than a netlist may have.
func TestTooLarge(t *testing.T) {
	text := "module m (input [31:0] a, output reg [31:0] q); always @* begin q = a; for (i = 0; i < 256; i = i + 1) for (k = 0; k < %d; k = k + 1) q = (q * 77 + i) ^ (q >> k); end endmodule"
	for _, c := range []struct{ turns, code int }{{40, 0}, {77, api.FBig}} {
		d := designOf(t, fmt.Sprintf(text, c.turns))
		n, err := Lower(d)
		code, at := api.Code(err)
		if code != c.code || at != 0 {
			t.Fatalf("%d turns: fault %d at %d", c.turns, code, at)
		}
		if isNone := reflect.DeepEqual(n, api.Netlist{}); isNone != (code != 0) || code == 0 && !Valid(n) || len(n.Nodes) > 60000 {
			t.Errorf("%d turns: %d nodes", c.turns, len(n.Nodes))
		}
	}
}
