package word

import (
	"fmt"
	"math/rand"
	"reflect"
	"testing"

	"gatewright/api"
	"gatewright/sim"
)

// shows looks whether the netlist of a design shows what the design shows, in some orders, and gives it.
func shows(t *testing.T, name string, d api.Design, trace [][]uint64) api.Netlist {
	t.Helper()
	n, err := Lower(d)
	if err != nil {
		code, at := api.Code(err)
		t.Fatalf("%s: fault %d at %d", name, code, at)
	}
	if !Valid(n) {
		t.Fatalf("%s: not valid", name)
	}
	if len(n.Inputs) != len(d.Inputs) || len(n.Outputs) != len(d.Outputs) {
		t.Fatalf("%s: %d inputs, %d outputs", name, len(n.Inputs), len(n.Outputs))
	}
	for i, in := range d.Inputs {
		if n.Inputs[i] != d.Nets[in].Width {
			t.Fatalf("%s: input %d has the width %d", name, i, n.Inputs[i])
		}
	}
	for i, out := range d.Outputs {
		if n.Nodes[n.Outputs[i]].Width != d.Nets[out].Width {
			t.Fatalf("%s: output %d has the width %d", name, i, n.Nodes[n.Outputs[i]].Width)
		}
	}
	frugal := lowered(&d, true)
	if !Valid(frugal) {
		t.Fatalf("%s: frugally, it is not valid", name)
	}
	got, other := Run(n, trace), Run(frugal, trace)
	for _, order := range [][]int{nil, {1, 0, 2}, {-1}} {
		want, err := sim.Run(d, trace, order)
		if err != nil {
			t.Fatalf("%s: %v", name, err)
		}
		for i := range want {
			if !reflect.DeepEqual(got[i], want[i]) || !reflect.DeepEqual(other[i], want[i]) {
				t.Fatalf("%s: cycle %d: %v, frugally %v, want %v", name, i, got[i], other[i], want[i])
			}
		}
	}
	return n
}

// traceOf is a random trace for a design.
func traceOf(r *rand.Rand, d *api.Design, cycles int) [][]uint64 {
	trace := make([][]uint64, cycles)
	for i := range trace {
		for range d.Inputs {
			trace[i] = append(trace[i], r.Uint64()>>r.Intn(64))
		}
	}
	return trace
}

func TestTexts(t *testing.T) {
	r := rand.New(rand.NewSource(11))
	for _, text := range []string{
		"",
		"assign q = a;",
		"assign {p, q} = a * 3 + b;",
		"assign q[3:0] = a; assign q[5:4] = ~b; assign q[7] = c[2]; assign p[1] = q[4]; assign p[0] = p[1];",
		"reg [7:0] r = 5; assign q = r; always @clk if (b) r <= r + a;",
		"reg [7:0] r = 5; assign q = r; assign p = 3; always @clk begin r[3:0] <= a; r[2] <= b; if (b) r[7:6] <= r[1:0]; end",
		"reg [7:0] r = 200; wire [7:0] w; assign w[3:0] = a; assign w[7:4] = r[7:4]; assign q = w; always @clk r[7:4] <= r[7:4] + 1;",
		"reg [7:0] r = 201; always @clk begin r[0] <= b; r[2] <= ~r[0]; end always @clk r[7] <= r[2]; assign q = r;",
		"reg [7:0] x = 77; assign q = x;",
		"reg [7:0] x = 77; always @* x[3] = b; assign q = x;",
		"reg [7:0] s [0:4]; assign q = s[a]; always @clk s[c[2:0]] <= a + c;",
		"reg [7:0] s [0:4]; assign q = s[a]; always @clk begin s[c[2:0]] <= a; if (b) s[c[2:0] + 1] <= c; else begin s[a] <= 9; s[a] <= s[1]; end end",
		"reg [3:0] s [0:4]; reg [2:0] x; assign q = {s[a], x}; always @clk {x, s[c], x[0]} <= c ^ a;",
		"reg [7:0] x; always @* begin x = 0; x[a] = b; x[c] = 1; end assign q = x;",
		"reg [7:0] x; always @* begin x[a] = b; x = c; end assign q = x;",
		"reg [7:0] x; always @clk begin x[a] <= b; if (c[0]) x[c[3:1]] <= 1; end assign q = x;",
		"reg x; always @* begin x = 0; x[a] = b; end assign q = x;",
		"reg [7:0] x; reg [7:0] y; always @* begin x = a; if (b) begin x = x + 1; y = x; end else begin y = x * 3; x = c; end y = y ^ x; end assign q = y;",
		"reg [7:0] x; always @* begin x = c; if (b) begin if (a[0]) x[1] = 0; if (a[1]) begin x[2] = b; if (a[2]) x = 7; end end else if (a[3]) x[4:3] = a; end assign q = x;",
		"reg [7:0] x; always @* case (a) 0: x = 1; 1, 3: x = c; 2: begin x = 5; if (b) x = 6; end default: x = 9; endcase assign q = x;",
		"reg [7:0] x; reg y; always @* begin {x, y} = 0; case (c[1:0]) 1: x[3] = b; 2: {y, x[1:0], x[7]} = a; endcase end assign q = x; assign p = y;",
		"reg [7:0] t; reg [7:0] r; always @clk begin t = a + r; if (b) t = t * 2; r <= t; t[0] = 1; end assign q = r;",
		"reg [7:0] t = 9; reg [7:0] r; always @clk begin r <= t; if (b) t = t + a; end assign q = r;",
		"reg [7:0] t = 9; reg [7:0] r; always @clk begin if (b) t = a; else t[a[2:0]] = 1; r <= r ^ t; end assign q = r;",
		"reg x; reg y = 1; always @clk begin x <= y; y <= x; end assign p = {x, y};",
		"always @* if (0) ; else if (1) ; assign q = {3{a[1:0]}}; assign p = {2{b}};",
		"reg [7:0] x; always @* if (1) x = a; else x = c; assign q = x;",
		"reg [7:0] x; always @* if (a - a) x = a; else x = c; assign q = x;",
		"assign q = a[c] + c[a] + (c >> a) + (c << b) + -a + (a < c) + (a >= c) + &a + |c + ^c + !a;",
		"assign q = c[7:4] * a; assign p = c == 8'hf0 || a != 3 && b;",
		"assign q = (b ? a : c) - (b ? 1 : 0);",
		"wire [7:0] w; u u1 (.i(a), .o(w)); u u2 (.i(w), .o(q));",
		// Nets of which some bits are read by those who set the others.
		"wire [3:0] x; assign x[1] = x[0]; assign x[2] = x[1] ^ b; assign x[0] = a[0]; assign x[3] = x[2]; assign q = x;",
		"reg [3:0] x; reg [3:0] y; always @* begin x[0] = 0; x[0] = ~y[1]; end always @* begin y[0] = 0; y[0] = ~x[1]; end assign q = {x, y};",
	} {
		d := designOf(t, "module m (input [3:0] a, input b, output [7:0] q, output [1:0] p, input [7:0] c); "+text+" endmodule module u (input [7:0] i, output [7:0] o); reg [7:0] r = 3; assign o = r ^ i; always @clk r <= o; endmodule")
		shows(t, text, d, traceOf(r, &d, 40))
	}
}

func TestDocument(t *testing.T) {
	d := designOf(t, "module m #(W = 4) (input [W - 1:0] a, input en, output [W - 1:0] q, output odd); reg [W - 1:0] r = 5; assign q = r + (en ? a : 1); assign odd = ^r; always @clk if (en) r <= r + a; endmodule")
	n, err := Lower(d)
	if err != nil {
		t.Fatal(err)
	}
	got := Run(n, [][]uint64{{3, 1}, {2, 0}, {15, 1}})
	if want := [][]uint64{{8, 0}, {9, 1}, {7, 1}}; !reflect.DeepEqual(got, want) {
		t.Errorf("%v, want %v", got, want)
	}
}

func TestFaults(t *testing.T) {
	for _, c := range []struct {
		text     string
		code, at int
	}{
		{"assign q = a; assign q = 1;", api.FDrive, 1},
		{"reg r; always @clk r = a; assign q = r;", api.FRace, 2},
		{"reg r; always @* if (a) r = 1;", api.FLatch, 2},
		{"wire x; wire y; assign q = a; assign x = y; assign y = x + 1;", api.FLoop, 1},
		// The first fault is told, though another one is, too.
		{"reg r; always @* if (a) r = 1; assign q = a; assign q = 1;", api.FDrive, 1},
	} {
		d := designOf(t, "module m (input a, output q); "+c.text+" endmodule")
		n, err := Lower(d)
		if code, at := api.Code(err); code != c.code || at != c.at || !reflect.DeepEqual(n, api.Netlist{}) {
			t.Errorf("%s: fault %d at %d, want %d at %d: %+v", c.text, code, at, c.code, c.at, n)
		}
	}
}

// TestNeeded: what no output hangs on is left out.
func TestNeeded(t *testing.T) {
	d := designOf(t, "module m (input [3:0] a, input b, output q); reg [3:0] r; reg [3:0] s [0:3]; reg [3:0] u [0:3]; reg v; always @clk begin r <= r + s[a]; s[a] <= r; u[b] <= a; v <= u[a]; end assign q = v; endmodule")
	n := shows(t, "needed", d, traceOf(rand.New(rand.NewSource(12)), &d, 50))
	if len(n.Inputs) != 2 || len(n.Regs) != 1 || len(n.Mems) != 1 || len(n.Writes) != 1 {
		t.Errorf("%+v", n)
	}
}

// TestOperations: designs that are made by hand, with expressions of all kinds.
func TestOperations(t *testing.T) {
	m := &maker{Rand: rand.New(rand.NewSource(13))}
	for range 4000 {
		d := api.Design{Nets: []api.Net{{Width: 5, Words: 1 + m.Intn(40)}}}
		x := m.exp(&d, 1+m.Intn(32), 1+m.Intn(3))
		q := len(d.Nets)
		d.Nets = append(d.Nets, api.Net{Width: x.Width, Dir: 2})
		d.Outputs = []int{q}
		set := api.Act{Kind: api.ASet, To: []api.Dest{{Net: q, Width: x.Width}}, Value: x}
		write := api.Act{Kind: api.ASet, Later: true, To: []api.Dest{{Width: 5, Dyn: true, Index: m.exp(&d, 6, 1)}}, Value: m.exp(&d, 5, 1)}
		d.Procs = []api.Proc{{Acts: []api.Act{set}}, {Clocked: true, Acts: []api.Act{write}}}
		shows(t, fmt.Sprintf("%+v", x), d, traceOf(m.Rand, &d, 10))
	}
}

// exp makes an expression of a width; its nets are inputs of the design.
func (m *maker) exp(d *api.Design, width, deep int) api.Exp {
	net := func(width int) api.Exp {
		if len(d.Inputs) > 0 && m.Intn(2) == 0 {
			n := d.Inputs[m.Intn(len(d.Inputs))]
			x := api.Exp{Kind: api.XNet, Width: d.Nets[n].Width, Net: n}
			if x.Width != width {
				x = api.Exp{Kind: api.XExt, Width: width, Args: []api.Exp{x}}
			}
			return x
		}
		d.Inputs = append(d.Inputs, len(d.Nets))
		d.Nets = append(d.Nets, api.Net{Width: width, Dir: 1})
		return api.Exp{Kind: api.XNet, Width: width, Net: len(d.Nets) - 1}
	}
	x := api.Exp{Width: width}
	if deep == 0 || m.Intn(8) == 0 {
		if m.Intn(3) == 0 {
			x.Kind, x.Num = api.XNum, []uint64{0, 1, mask(width), m.Uint64() & mask(width)}[m.Intn(4)]
			return x
		}
		return net(width)
	}
	some := func(width int) api.Exp { return m.exp(d, width, deep-1) }
	any := func() api.Exp { return some([]int{1, width, 1 + m.Intn(32)}[m.Intn(3)]) }
	kinds := []int{api.XSlice, api.XExt, api.XCat, api.XNot, api.XAnd, api.XOr, api.XXor, api.XAdd, api.XSub, api.XMul, api.XShl, api.XShr, api.XIf}
	if width == 1 {
		kinds = append(kinds, api.XBit, api.XAll, api.XAny, api.XOdd, api.XEq, api.XLt, api.XBit, api.XAll, api.XAny, api.XOdd, api.XEq, api.XLt)
	}
	if width == 5 {
		kinds = append(kinds, api.XWord, api.XWord, api.XWord)
	}
	x.Kind = kinds[m.Intn(len(kinds))]
	switch x.Kind {
	case api.XWord:
		x.Args = []api.Exp{some(1 + m.Intn(8))}
	case api.XBit:
		x.Args = []api.Exp{some(1 + m.Intn(6))}
		for n := net(1 + m.Intn(32)); ; n = net(1 + m.Intn(32)) {
			if n.Kind == api.XNet {
				x.Net = n.Net
				break
			}
		}
	case api.XSlice:
		all := width + m.Intn(33-width)
		x.Num = uint64(m.Intn(all - width + 1))
		x.Args = []api.Exp{some(all)}
	case api.XExt, api.XAll, api.XAny, api.XOdd:
		x.Args = []api.Exp{any()}
	case api.XCat:
		for left := width; left > 0; {
			part := 1 + m.Intn(left)
			x.Args = append(x.Args, some(part))
			left -= part
		}
	case api.XNot:
		x.Args = []api.Exp{some(width)}
	case api.XShl, api.XShr:
		x.Args = []api.Exp{some(width), some(1 + m.Intn(6))}
	case api.XEq, api.XLt:
		w := 1 + m.Intn(32)
		x.Args = []api.Exp{some(w), some(w)}
	case api.XIf:
		x.Args = []api.Exp{some(1), some(width), some(width)}
	default:
		x.Args = []api.Exp{some(width), some(width)}
	}
	return x
}

// sharer makes all lists of operands that are alike one list.
type sharer map[string][]api.Exp

func (s sharer) exp(x api.Exp) api.Exp {
	if len(x.Args) > 0 {
		args := make([]api.Exp, len(x.Args))
		for i := range x.Args {
			args[i] = s.exp(x.Args[i])
		}
		key := fmt.Sprintf("%+v", args)
		if s[key] == nil {
			s[key] = args
		}
		x.Args = s[key]
	}
	return x
}

func (s sharer) acts(acts []api.Act) []api.Act {
	var list []api.Act
	for _, a := range acts {
		a.Value, a.If, a.Then, a.Else = s.exp(a.Value), s.exp(a.If), s.acts(a.Then), s.acts(a.Else)
		var to []api.Dest
		for _, d := range a.To {
			d.Index = s.exp(d.Index)
			to = append(to, d)
		}
		a.To = to
		list = append(list, a)
	}
	return list
}

// TestShared: whether expressions share memory makes no difference.
func TestShared(t *testing.T) {
	m := &maker{Rand: rand.New(rand.NewSource(14))}
	for range 400 {
		d, ok := m.design(t)
		if !ok {
			continue
		}
		want, err := Lower(d)
		if err != nil {
			t.Fatal(err)
		}
		frugal := lowered(&d, true)
		s := sharer{}
		for p := range d.Procs {
			d.Procs[p].Acts = s.acts(d.Procs[p].Acts)
		}
		if got, err := Lower(d); err != nil || !reflect.DeepEqual(got, want) {
			t.Fatalf("%v: %+v, want %+v", err, got, want)
		}
		if got := lowered(&d, true); !reflect.DeepEqual(got, frugal) {
			t.Fatalf("%+v, want %+v", got, frugal)
		}
	}
	// What stands in a shared list is read anew when it has been set.
	d := designOf(t, "module m (input [3:0] a, output reg [3:0] q, output reg [3:0] p); reg [3:0] x; always @* begin x = a; q = ~(x + 1); x = q; p = ~(x + 1); if (a[0]) begin x = 0; q = ~(x + 1); end p = p ^ ~(x + 1); end endmodule")
	s := sharer{}
	d.Procs[0].Acts = s.acts(d.Procs[0].Acts)
	shows(t, "shared", d, [][]uint64{{0}, {1}, {2}, {7}, {15}})
}

// TestKept: what is handed over stays as it was, and answers share nothing with each other.
func TestKept(t *testing.T) {
	text := "module m (input [3:0] a, output [3:0] q, output [3:0] p); reg [3:0] r = 5; reg [3:0] s [0:3]; assign q = r ^ s[a]; assign p = q; always @clk begin r <= r + a; s[a] <= r; end endmodule"
	d, again := designOf(t, text), designOf(t, text)
	first, err := Lower(d)
	if err != nil || !reflect.DeepEqual(d, again) {
		t.Fatal("changed what was handed over", err)
	}
	second, _ := Lower(d)
	if !reflect.DeepEqual(first, second) {
		t.Fatalf("%+v, %+v", first, second)
	}
	trace := [][]uint64{{1}, {2}, {3}, {2, 9}}
	rows := Run(first, trace)
	if !reflect.DeepEqual(first, second) || !reflect.DeepEqual(trace, [][]uint64{{1}, {2}, {3}, {2, 9}}) {
		t.Fatal("changed what was handed over")
	}
	for i := range rows {
		rows[i][0] = 99
		_ = append(rows[i], 98)
	}
	if !reflect.DeepEqual(Run(first, trace), Run(second, trace)) || Run(first, trace)[0][0] == 99 {
		t.Fatal("rows are kept")
	}
	for i := range first.Nodes {
		for k := range first.Nodes[i].Args {
			first.Nodes[i].Args[k] = -7
		}
		_ = append(first.Nodes[i].Args, -8)
	}
	for i := range first.Inputs {
		first.Inputs[i] = 0
	}
	for i := range first.Outputs {
		first.Outputs[i] = -9
	}
	if third, _ := Lower(d); !reflect.DeepEqual(third, second) || !Valid(second) {
		t.Fatal("answers share memory")
	}
}

func TestRunByHand(t *testing.T) {
	n := api.Netlist{
		Inputs:  []int{2, 4},
		Nodes:   []api.Node{{Kind: api.NIn, Width: 2}, {Kind: api.NIn, Width: 4, Num: 1}, {Kind: api.NReg, Width: 4}, {Kind: api.NRead, Width: 4, Args: []int{0}}, {Kind: api.XNum, Width: 1, Num: 1}, {Kind: api.XAny, Width: 1, Args: []int{1}}, {Kind: api.XNum, Width: 4, Num: 7}},
		Regs:    []api.Reg{{Width: 4, Init: 9, Next: 3}},
		Mems:    []api.Mem{{Width: 4, Words: 3}},
		Writes:  []api.Write{{When: 4, Addr: 0, Data: 6}, {When: 5, Addr: 0, Data: 1}},
		Outputs: []int{2, 3, 1},
	}
	// Of two writes of a word the last one holds; a word that is not there is not set, and 0.
	got := Run(n, [][]uint64{{0, 0}, {0, 5}, {4, 0, 3}, {3, 2}, {3}, {2, 16}, {2}, nil})
	want := [][]uint64{{9, 0, 0}, {0, 7, 5}, {7, 5, 0}, {5, 0, 2}, {0, 0, 0}, {0, 0, 0}, {0, 7, 0}, {7, 7, 0}}
	if !reflect.DeepEqual(got, want) {
		t.Errorf("%v, want %v", got, want)
	}
	if got := Run(n, nil); len(got) != 0 {
		t.Errorf("%v", got)
	}
	if got := Run(api.Netlist{}, make([][]uint64, 2)); !reflect.DeepEqual(got, [][]uint64{{}, {}}) {
		t.Errorf("%v", got)
	}
}

// TestNoPanic: what is no design gives a fault, what is no netlist no rows.
func TestNoPanic(t *testing.T) {
	net := []api.Net{{Width: 1}}
	set := func(x api.Exp) []api.Proc {
		return []api.Proc{{Acts: []api.Act{{Kind: api.ASet, To: []api.Dest{{Width: 1}}, Value: x}}}}
	}
	for _, d := range []api.Design{
		{Outputs: []int{0}},
		{Inputs: []int{3}},
		{Nets: net, Inputs: []int{-1}},
		{Nets: net, Outputs: []int{0}, Procs: set(api.Exp{})},
		{Nets: net, Outputs: []int{0}, Procs: set(api.Exp{Kind: api.XNot, Width: 1})},
		{Nets: net, Outputs: []int{0}, Procs: set(api.Exp{Kind: api.XNet, Width: 1, Net: 7})},
		{Nets: []api.Net{{Width: -1}}, Outputs: []int{0}},
	} {
		n, err := Lower(d)
		if err == nil || !reflect.DeepEqual(n, api.Netlist{}) {
			t.Errorf("%+v: %+v", d, n)
		}
	}
	if rows := Run(api.Netlist{Outputs: []int{0}}, make([][]uint64, 2)); rows != nil {
		t.Error(rows)
	}
}
