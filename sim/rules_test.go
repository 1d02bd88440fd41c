package sim

import (
	"math"
	"reflect"
	"strings"
	"testing"

	"gatewright/api"
	"gatewright/elab"
	"gatewright/parse"
)

// designOf makes the design of the module m of a text.
func designOf(t *testing.T, text string) api.Design {
	t.Helper()
	ms, err := parse.Text(text)
	if err != nil {
		t.Fatalf("%v: %s", err, short(text))
	}
	d, err := elab.Design(ms, "m")
	if err != nil {
		t.Fatalf("%v: %s", err, short(text))
	}
	return d
}

// short is a text as it is told where a test fails.
func short(text string) string {
	return text[:min(len(text), 600)]
}

// rows is what a text must show.
func rows(t *testing.T, text string, trace [][]uint64, order []int, want [][]uint64) {
	t.Helper()
	got, err := Run(designOf(t, text), trace, order)
	if err != nil {
		code, at := api.Code(err)
		t.Fatalf("fault %d at %d: %s", code, at, short(text))
	}
	if len(got) != len(want) {
		t.Fatalf("%v, want %v: %s", got, want, short(text))
	}
	for i := range want {
		if !reflect.DeepEqual(got[i], want[i]) {
			t.Fatalf("%v, want %v: %s", got, want, short(text))
		}
	}
}

// loops looks whether a text does not come to rest at a cycle.
func loops(t *testing.T, text string, trace [][]uint64, order []int, at int) {
	t.Helper()
	got, err := Run(designOf(t, text), trace, order)
	if code, place := api.Code(err); code != api.FLoop || place != at || got != nil {
		t.Fatalf("%v, fault %d at %d, want %d at %d: %s", got, code, place, api.FLoop, at, short(text))
	}
}

// column is one row a cycle, with one number each.
func column(values ...uint64) [][]uint64 {
	var all [][]uint64
	for _, v := range values {
		all = append(all, []uint64{v})
	}
	return all
}

func cycles(n int) [][]uint64 {
	return make([][]uint64, n)
}

func TestDocument(t *testing.T) {
	text := `module m #(W = 4) (input [W - 1:0] a, input en, output [W - 1:0] q, output odd);
reg [W - 1:0] r = 5; assign q = r + (en ? a : 1); assign odd = ^r; always @clk if (en) r <= r + a; endmodule`
	rows(t, text, [][]uint64{{3, 1}, {2, 0}, {15, 1}}, nil, [][]uint64{{8, 0}, {9, 1}, {7, 1}})

	atOnce := `module m (output [1:0] q); reg a; reg b = 1; assign q = {a, b}; always @clk a = b; always @clk b = a; endmodule`
	rows(t, atOnce, cycles(3), []int{0, 0, 0}, column(1, 3, 3))
	rows(t, atOnce, cycles(3), []int{0, 1, 0}, column(1, 0, 0))
	later := `module m (output [1:0] q); reg a; reg b = 1; assign q = {a, b}; always @clk a <= b; always @clk b <= a; endmodule`
	rows(t, later, cycles(3), []int{0, 0, 0}, column(1, 2, 1))
	rows(t, later, cycles(3), []int{0, 1, 0}, column(1, 2, 1))
}

func TestFirst(t *testing.T) {
	rows(t, "module m (output reg [3:0] p, output [3:0] q, output [3:0] u, output [3:0] v); reg [3:0] r = 9; reg [3:0] s [0:1]; assign q = r; assign v = s[1] + 1; endmodule",
		cycles(2), nil, [][]uint64{{0, 9, 0, 1}, {0, 9, 0, 1}})
	// What reads nothing runs too, but once.
	rows(t, "module m (output reg [3:0] q); always @* q = q + 3; endmodule", cycles(2), nil, column(3, 3))
	// What is at the clock does not run ahead of it.
	rows(t, "module m (output reg [3:0] q); always @clk q = q + 3; endmodule", cycles(3), nil, column(0, 3, 6))
	rows(t, "module m (output reg [3:0] q); always @clk q <= 7; endmodule", nil, nil, nil)
	rows(t, "module m (input a); reg r; always @clk r <= a; endmodule", column(1, 0), nil, [][]uint64{{}, {}})
	rows(t, "module m (); endmodule", cycles(1), []int{5}, [][]uint64{{}})
}

func TestInputs(t *testing.T) {
	text := "module m (input [3:0] a, output [7:0] q, input b, input [31:0] c, output [31:0] p); assign q = {3'b0, b, a}; assign p = c; endmodule"
	rows(t, text, [][]uint64{{0xfff, 3, 1<<32 + 7}, {}, {5}, nil, {1, 2, math.MaxUint64, 9, 9}, {0, 1}},
		nil, [][]uint64{{31, 7}, {0, 0}, {5, 0}, {0, 0}, {1, 1<<32 - 1}, {16, 0}})
}

func TestInputWakes(t *testing.T) {
	// n counts how often the process runs: at first, and whenever a changes.
	text := "module m (input [1:0] a, output reg [7:0] n); reg x; always @* begin n = n + 1; x = a[0]; end endmodule"
	rows(t, text, column(0, 0, 1, 1, 2, 6, 0), nil, column(1, 1, 2, 2, 3, 3, 4))
}

func TestTargets(t *testing.T) {
	head := "module m (input [7:0] a, output [7:0] q); reg [3:0] x; reg [3:0] y; assign q = {x, y}; "
	for _, c := range []struct {
		acts string
		want [][]uint64
	}{
		{"{x, y} = a;", column(0xa5, 0xff)},
		{"{x[0], y, x[3:1]} = a;", column(0xb4, 0xff)},
		{"begin y = a; x[2] = a; x[1:0] = a; end", column(0x55, 0x7f)},
		{"begin x = a; y = x; end", column(0x55, 0xff)},
		// An index is worked out ahead of what is set beside it.
		{"begin x = 1; y = 0; {x, y[x]} = a; end", column(0x22, 0xf2)},
		{"begin x = 1; y = 0; {y[x], x} = a; end", column(0x50, 0xf2)},
		// The value too.
		{"begin x = 3; {x, y} = {y, x}; y[3] = 0; end", [][]uint64{{0x03}, {0x03}}},
		{"begin x = 0; {x[0], x[0]} = a; y = 9; end", column(0x19, 0x19)},
		{"begin x = 0; {x[0], x[0]} = a << 1; y = 9; end", column(0x09, 0x09)},
		// A bit that is not there is not set.
		{"begin x = 0; y = 15; x[a[3:0]] = 1; y[a[1:0]] = 0; end", column(0x0d, 0x07)},
	} {
		t.Run(c.acts, func(t *testing.T) {
			rows(t, head+"always @* "+c.acts+" endmodule", column(0xa5, 0xff), nil, c.want)
		})
	}
	rows(t, "module m (input [3:0] i, output reg [3:0] q); always @* begin q = 0; q[i] = 1; end endmodule", column(0, 3, 4, 15), nil, column(1, 8, 0, 0))
	rows(t, "module m (input [31:0] i, output reg [31:0] q); always @* begin q = 5; q[i] = 0; q[i - 1] = 1; end endmodule",
		column(0, 31, 32, 64, 1<<32-1), nil, column(4, 5+1<<30, 5+1<<31, 5, 5))
}

func TestBranches(t *testing.T) {
	text := "module m (input [2:0] a, output reg [7:0] q); always @* begin q = 1; if (a) q = q + 2; else q = q + 4; if (a == 2) begin end else if (a[2]) begin q = q * 2; q = q + 1; end end endmodule"
	rows(t, text, column(0, 1, 2, 4, 6), nil, column(5, 3, 3, 7, 7))
}

func TestWakes(t *testing.T) {
	for _, c := range []struct {
		name, text string
		trace      [][]uint64
		order      []int
		want       [][]uint64
	}{
		{"a reader behind runs once", "assign x = 1; always @* begin n = n + 1; y = x[0]; end", cycles(2), nil, column(1, 1)},
		{"a reader ahead runs again", "assign x = 1; always @* begin n = n + 1; y = x[0]; end", cycles(2), []int{1, 0}, column(2, 2)},
		{"the same value wakes nobody", "assign x = a & 0; always @* begin n = n + 1; y = x[0]; end", column(0, 1, 2), []int{1, 0}, column(1, 1, 1)},
		{"another bit of the net wakes", "assign x[2] = a[0]; always @* begin n = n + 1; y = x[0]; end", column(0, 1, 1, 0), nil, column(1, 2, 2, 3)},
		{"there and back wakes", "always @* begin z = a; z = 0; end always @* begin n = n + 1; y = z[0]; end", column(0, 1, 1, 2), nil, column(1, 2, 2, 3)},
		{"there and back in one set wakes", "always @* {z, z} = {a, 3'b0}; always @* begin n = n + 1; y = z[0]; end", column(0, 1, 1, 2), nil, column(1, 2, 2, 3)},
		{"a condition wakes", "always @* begin n = n + 1; if (a) y = 1; end", column(0, 1, 3), nil, column(1, 2, 3)},
		{"an index of a bit wakes", "always @* begin n = n + 1; y = z[a]; end", column(0, 1, 3), nil, column(1, 2, 3)},
		{"an index of a target wakes", "always @* begin n = n + 1; z[a] = 1; end", column(0, 1, 3), nil, column(1, 2, 3)},
		{"what never runs wakes too", "always @* begin n = n + 1; if (0) begin y = a ? 1 : 0; end end", column(0, 1, 3), nil, column(1, 2, 3)},
		{"a target alone does not", "always @* begin n = n + 1; z = 0; end always @* z = a;", column(0, 1, 3), nil, column(1, 1, 1)},
		{"who runs does not wake itself", "always @* begin n = n + 1; z = z + 1; y = a[0]; end", column(0, 1, 0), nil, column(1, 2, 3)},
		{"but another one wakes it, of what both set", "always @* begin n = n + 1; z = z + 1; end always @* z = a;", column(0, 5, 5), nil, column(2, 3, 3)},
		{"who waits is not woken for the next delta", "assign x = a; assign x[0] = a[1]; always @* begin n = n + 1; y = x[0]; end", column(0, 2, 0), nil, column(1, 2, 3)},
		{"the clock wakes nobody", "always @* n = n + 1; always @clk y = a[0];", column(0, 1, 0), nil, column(1, 1, 1)},
		{"what is at the clock wakes others", "always @* begin n = n + 1; z = y; end always @clk y = a[0];", column(0, 1, 0, 0), nil, column(1, 1, 2, 3)},
		{"what is at the clock is not woken", "always @clk begin n = n + 1; z = a; end", column(0, 1, 0), nil, column(0, 1, 2)},
		{"what is set later wakes", "always @* begin n = n + 1; z = y; end always @clk y <= a[0];", column(0, 1, 0, 0), nil, column(1, 1, 2, 3)},
		{"there and back, later, wakes", "always @* begin n = n + 1; y = z[0]; end always @clk begin z <= a; z <= 0; end", column(0, 1, 0), nil, column(1, 1, 2)},
		{"a word wakes", "always @* begin n = n + 1; z = s[0]; end always @clk s[a[1:0]] <= 5;", column(1, 1, 2, 3, 0, 0), nil, column(1, 2, 2, 3, 3, 4)},
		{"an index of a word wakes", "always @* begin n = n + 1; z = s[a]; end", column(1, 1, 2, 7), nil, column(1, 1, 2, 3)},
	} {
		t.Run(c.name, func(t *testing.T) {
			head := "module m (input [2:0] a, output reg [7:0] n); wire [2:0] x; reg y; reg [2:0] z; reg [2:0] s [0:2]; "
			rows(t, head+c.text+" endmodule", c.trace, c.order, c.want)
		})
	}
}

func TestLater(t *testing.T) {
	head := "module m (input [3:0] a, output reg [3:0] p, output reg [3:0] q); reg [3:0] i; reg [3:0] s [0:9]; "
	for _, c := range []struct {
		name, text string
		order      []int
		want       [][]uint64
	}{
		{"the last one holds", "always @clk begin p <= a; p <= 2; q <= 3; q <= a; end", nil, [][]uint64{{0, 0}, {2, 4}, {2, 7}}},
		{"the value is that of the moment", "always @clk begin i = a; p <= i; i = i + 1; q <= i; i = 9; end", nil, [][]uint64{{0, 0}, {4, 5}, {7, 8}}},
		{"the place is that of the moment", "always @clk begin i = 1; p[i] <= 1; i = 2; q[i] <= a; i = 0; end", nil, [][]uint64{{0, 0}, {2, 0}, {2, 4}}},
		{"a word's place too", "always @clk begin i = 8; s[i] <= a; i = 9; end always @* begin p = s[8]; q = s[9]; end", nil, [][]uint64{{0, 0}, {4, 0}, {7, 0}}},
		{"it is kept until all have run", "always @clk p <= a; always @clk q <= p;", nil, [][]uint64{{0, 0}, {4, 0}, {7, 4}}},
		{"whoever runs first", "always @clk p <= a; always @clk q <= p;", []int{1}, [][]uint64{{0, 0}, {4, 0}, {7, 4}}},
		{"behind what is set at once", "always @clk begin p <= 1; p = 2; q = p; end", nil, [][]uint64{{0, 0}, {1, 2}, {1, 2}}},
		{"in the order in which it came", "always @clk p <= 1; always @clk p <= 2;", nil, [][]uint64{{0, 0}, {2, 0}, {2, 0}}},
		{"the other way round", "always @clk p <= 1; always @clk p <= 2;", []int{1}, [][]uint64{{0, 0}, {1, 0}, {1, 0}}},
		{"bits of one net", "always @clk begin p[3:2] <= a; p[0] <= 1; {q[0], q[3:1]} <= a; end", nil, [][]uint64{{0, 0}, {1, 8}, {13, 14}}},
		{"a word that is not there", "always @clk begin s[a + 5] <= 15; s[1] <= a; end always @* begin p = s[9]; q = s[1]; end", nil, [][]uint64{{0, 0}, {15, 4}, {15, 7}}},
	} {
		t.Run(c.name, func(t *testing.T) {
			rows(t, head+c.text+" endmodule", column(4, 7, 1), c.order, c.want)
		})
	}
}

// TestLaterBeside: what a design keeps in a process that is not at the clock is set when its delta is over, and wakes that process too.
func TestLaterBeside(t *testing.T) {
	less := api.Exp{Kind: api.XLt, Width: 1, Args: []api.Exp{{Kind: api.XNet, Width: 3}, {Kind: api.XNum, Width: 3, Num: 2}}}
	more := api.Exp{Kind: api.XAdd, Width: 3, Args: []api.Exp{{Kind: api.XNet, Width: 3}, {Kind: api.XNum, Width: 3, Num: 1}}}
	set := api.Act{Kind: api.ASet, Later: true, To: []api.Dest{{Width: 3}}, Value: more}
	d := api.Design{
		Nets:    []api.Net{{Width: 3, Dir: 2}},
		Procs:   []api.Proc{{}, {Acts: []api.Act{{Kind: api.AIf, If: less, Then: []api.Act{set, set}}}}},
		Outputs: []int{0},
	}
	got, err := Run(d, cycles(1), nil)
	if err != nil || !reflect.DeepEqual(got, column(2)) {
		t.Fatal(got, err)
	}
}

// TestShared: two processes of a design may share a list of operands; both read what stands there.
func TestShared(t *testing.T) {
	operands := []api.Exp{{Kind: api.XNet, Width: 4}, {Kind: api.XNum, Width: 4, Num: 9}}
	set := func(net, kind, count int) api.Proc {
		value := api.Exp{Kind: kind, Width: 4, Args: operands[:count]}
		return api.Proc{Acts: []api.Act{{Kind: api.ASet, To: []api.Dest{{Net: net, Width: 4}}, Value: value}}}
	}
	d := api.Design{
		Nets:    []api.Net{{Width: 4, Dir: 1}, {Width: 4, Dir: 2}, {Width: 4, Dir: 2}, {Width: 4, Dir: 2}},
		Procs:   []api.Proc{set(1, api.XAdd, 2), set(2, api.XMul, 2), set(3, api.XNot, 1)},
		Inputs:  []int{0},
		Outputs: []int{1, 2, 3},
	}
	got, err := Run(d, column(1, 2), nil)
	if err != nil || !reflect.DeepEqual(got, [][]uint64{{10, 9, 14}, {11, 2, 13}}) {
		t.Fatal(got, err)
	}
}

// TestOrder has four processes at the clock that write down who runs.
func TestOrder(t *testing.T) {
	text := "module m (output reg [31:0] q); always @clk q = q * 4; always @clk q = q * 4 + 1; always @clk q = q * 4 + 2; always @clk q = q * 4 + 3; endmodule"
	d := designOf(t, text)
	for _, order := range [][]int{nil, {}, {0}, {1}, {3}, {4}, {-1}, {-2, 1}, {-7, 5, 2}, {0, 1, 2, 3, 4}, {12, -12}, {math.MinInt, math.MaxInt, 6}, {1, 1, 1, 1, 1, 1, 1, 1, 2, 2, 2, 2}} {
		got, err := Run(d, cycles(5), order)
		if err != nil {
			t.Fatal(err)
		}
		want, p := uint64(0), 0
		for cycle := range 5 {
			if got[cycle][0] != want {
				t.Fatalf("order %v, cycle %d: %x, want %x", order, cycle, got[cycle][0], want)
			}
			left := []uint64{0, 1, 2, 3}
			for n := 4; n > 0; n-- {
				k := 0
				if len(order) > 0 {
					k = (order[p%len(order)]%n + n) % n
				}
				p++
				want = (want*4 + left[k]) & (1<<32 - 1)
				left = append(left[:k:k], left[k+1:]...)
			}
		}
	}
}

// TestChoices: one that is alone is chosen too, and processes beside the clock count with those at it.
func TestChoices(t *testing.T) {
	text := "module m (input a, output reg [31:0] q); wire x; assign x = a; always @clk q = q * 4 + 2; always @clk q = q * 4 + 1; endmodule"
	// Choices: the assign, the clock's two; then the assign whenever a changes.
	rows(t, text, column(0, 1, 1, 0), []int{0, 1, 0}, column(0, 6, 6*16+6, (6*16+6)*16+9))
	// The processes stand in the order of their numbers, not in that in which they were woken: here the second one ahead of the first.
	text = "module m (input a, output reg [1:0] q); reg x; reg y; reg z; always @* begin q = 1; z = y; end always @* begin q = 2; z = x; end always @clk begin x = a; y = a; end endmodule"
	rows(t, text, column(1, 0), []int{0}, column(2, 2))
	rows(t, text, column(1, 0), []int{0, 0, 0, 1, 0}, column(2, 1))
}

func TestRing(t *testing.T) {
	// A ring that comes to rest in five deltas: with three processes that is one too many, with a fourth it is not, whichever that is.
	ring := "module m (input [3:0] a, output [3:0] q); wire [3:0] x; wire [3:0] y; assign q = x; assign y = x; assign x = y < a ? y + 1 : y; "
	rows(t, ring+"endmodule", column(1), nil, column(1))
	loops(t, ring+"endmodule", column(2), nil, 0)
	for _, fourth := range []string{"always @clk;", "always @*;", "wire z; assign z = a;"} {
		rows(t, ring+fourth+"endmodule", column(2), nil, column(2))
		loops(t, ring+fourth+"endmodule", column(3), nil, 0)
		// Each settling has its own count.
		rows(t, ring+fourth+"endmodule", column(2, 3, 4, 5, 6, 7), nil, column(2, 3, 4, 5, 6, 7))
		loops(t, ring+fourth+"endmodule", column(2, 3, 4, 5, 9, 9), nil, 4)
	}
}

func TestRingAtTheClock(t *testing.T) {
	text := "module m (input a, output q); reg r; wire x; wire y; assign x = r ? !y : 0; assign y = x; assign q = x; always @clk r <= a; endmodule"
	rows(t, text, column(0, 0, 0), nil, column(0, 0, 0))
	loops(t, text, column(0, 1, 0), nil, 1)
	loops(t, text, column(0, 0, 1), nil, 2)
	// A ring that never stops runs at first too; without a cycle nothing runs.
	text = "module m (output x); wire y; assign x = !y; assign y = x; endmodule"
	loops(t, text, cycles(1), nil, 0)
	rows(t, text, nil, nil, nil)
	// Two that wake each other for ever, each by another net, though each sets but what the other one reads.
	text = "module m (output reg a, output reg b); always @* a = !b; always @* b = a; endmodule"
	loops(t, text, cycles(2), []int{1}, 0)
}

// TestThereAndBack: two processes wake each other for ever, each by another bit of a net than the other one reads, and nothing gets another value. Where chapter 4 finds no fault, that is no loop.
func TestThereAndBack(t *testing.T) {
	text := "module m (input a, output [1:0] q); reg x; reg [1:0] y; assign q = y; always @* begin x = 0; x = y[0]; end always @* begin y[1] = 0; y[1] = x; end always @* y[0] = a; @@ endmodule"
	orders := [][]int{nil, {2, 1}, {1}, {-1, 3}}
	for _, order := range orders {
		rows(t, strings.Replace(text, "@@", "", 1), column(0, 1, 1, 0, 1), order, column(0, 3, 3, 0, 3))
		// Behind the clock too.
		rows(t, strings.NewReplacer("@@", "always @clk r <= a;", "reg x;", "reg x; reg r;", "y[0] = a", "y[0] = r").Replace(text), column(0, 1, 1, 0, 1), order, column(0, 0, 3, 3, 0))
	}
	// But a ring in which something gets another value each time is one.
	loops(t, strings.Replace(text, "@@", "reg v; reg w; always @* v = a & !w; always @* w = v;", 1), column(0, 1), nil, 1)
	loops(t, "module m (input a); reg v; reg w; always @* begin v = 0; v = a & !w; end always @* begin w = 0; w = v; end endmodule", column(0, 1), nil, 1)
	// And so is the first text with a fault beside it, whichever that is.
	for _, fault := range []string{"reg z; always @* if (a) z = 1;", "wire z; assign z = a; assign z = 1;", "reg z; wire u; assign u = z; always @clk z = a;", "wire z; wire u; assign z = u; assign u = z;", "reg z; always @clk begin z = a; z <= 0; end"} {
		for _, order := range orders {
			loops(t, strings.Replace(text, "@@", fault, 1), column(0, 1, 1, 0, 1), order, 1)
		}
	}
}

// TestWokenForEver: what is set there and back is so at each delta, from the first one on.
func TestWokenForEver(t *testing.T) {
	two := "reg [1:0] x; reg [1:0] y; always @* begin x[0] = 0; x[0] = ~y[1]; end always @* begin y[0] = 0; y[0] = ~x[1]; end "
	for _, order := range [][]int{nil, {1}, {2, 1, 0}} {
		rows(t, "module m (input a, output q, output z);"+two+"assign q = a; assign z = x[0] & y[0]; endmodule", column(1, 0), order, [][]uint64{{1, 1}, {0, 1}})
		loops(t, "module m (input a, output q, output reg z);"+two+"assign q = a; always @* if (a) z = 1; endmodule", column(1, 0), order, 0)
		loops(t, "module m (input a, output q, output reg z);"+two+"assign q = x[0]; always @clk z = a; endmodule", column(1, 0), order, 0)
		loops(t, "module m (input a, output q, output z);"+two+"assign q = a; assign z = y[0]; assign z = a; endmodule", column(1, 0), order, 0)
	}
}

// TestKept: what is handed over stays as it was, and two answers share nothing.
func TestKept(t *testing.T) {
	text := "module m (input [3:0] a, output [3:0] q); reg [3:0] r = 5; reg [3:0] s [0:3]; assign q = r ^ s[a]; always @clk begin r <= r + a; s[a] <= r; end endmodule"
	d, again := designOf(t, text), designOf(t, text)
	trace, order := column(1, 2, 3, 2), []int{2, -1}
	first, err := Run(d, trace, order)
	if err != nil || !reflect.DeepEqual(d, again) || !reflect.DeepEqual(trace, column(1, 2, 3, 2)) || !reflect.DeepEqual(order, []int{2, -1}) {
		t.Fatal("changed what was handed over", err)
	}
	second, _ := Run(d, trace, order)
	if !reflect.DeepEqual(first, second) {
		t.Fatal(first, second)
	}
	for i := range first {
		first[i][0] = 99
		_ = append(first[i], 98)
	}
	third, _ := Run(d, trace, order)
	if !reflect.DeepEqual(third, second) {
		t.Fatal(third, second)
	}
}

// TestNoPanic: what is no design gives a fault.
func TestNoPanic(t *testing.T) {
	net := []api.Net{{Width: 1}}
	for _, d := range []api.Design{
		{Outputs: []int{0}},
		{Inputs: []int{3}},
		{Nets: net, Inputs: []int{-1}},
		{Nets: net, Procs: []api.Proc{{Acts: []api.Act{{}}}}},
		{Nets: net, Procs: []api.Proc{{Acts: []api.Act{{Kind: api.AIf}}}}},
		{Nets: []api.Net{{Width: -1}}},
		{Nets: []api.Net{{Width: 1, Words: -1}}},
	} {
		if got, err := Run(d, cycles(2), nil); got != nil || err == nil {
			t.Errorf("%+v: %v", d, got)
		}
	}
}
