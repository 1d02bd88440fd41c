package race

import (
	"testing"

	"gatewright/api"
	"gatewright/elab"
	"gatewright/parse"
	"gatewright/sim"
)

// designOf makes the design of the module m of a text.
func designOf(t *testing.T, text string) api.Design {
	t.Helper()
	ms, err := parse.Text(text)
	if err != nil {
		t.Fatalf("%v: %s", err, short(text))
	}
	d, err := elab.Design(ms, "m")
	if err != nil {
		t.Fatalf("%v: %s", err, short(text))
	}
	return d
}

// short is a text as it is told where a test fails.
func short(text string) string {
	return text[:min(len(text), 600)]
}

// wants looks what Check tells of a design.
func wants(t *testing.T, d api.Design, code, at int) {
	t.Helper()
	err := Check(d)
	if c, place := api.Code(err); c != code || place != at {
		t.Errorf("fault %d at %d, want %d at %d", c, place, code, at)
	}
	if code == 0 && err != nil {
		t.Errorf("%v, want nil", err)
	}
}

func TestRules(t *testing.T) {
	// The nets by their numbers: a 0, b 1, q 2, o 3, w 4, x 5, y 6, r 7, u 8, z 9, s 10, v 11.
	head := "module k (input i, output j); endmodule module m (input [1:0] a, input b, output [3:0] q, output reg o);" +
		" wire w; wire [3:0] x; wire [3:0] y; reg r; reg u; reg [3:0] z; reg [3:0] s [0:3]; reg [3:0] v; "
	for _, c := range []struct {
		text     string
		code, at int
	}{
		{"", 0, 0},

		{"assign x = a; assign x = b;", api.FDrive, 5},
		{"assign x[2:1] = a; assign x[3:2] = b;", api.FDrive, 5},
		{"assign x[1:0] = a; assign x[3:2] = b;", 0, 0},
		{"assign {x[0], w} = a; assign {q, x[0]} = b;", api.FDrive, 5},
		{"always @* r = a; always @clk r <= b;", api.FDrive, 7},
		{"always @clk r = a; always @clk r = b;", api.FDrive, 7},
		{"always @clk begin r <= a; r <= b; end", 0, 0},
		{"always @clk begin r = a; r = b; end", 0, 0},
		{"always @clk if (a) r <= b; always @clk if (!a) r <= 0;", api.FDrive, 7},
		{"always @clk if (0) r <= b; always @clk r <= 0;", api.FDrive, 7},
		{"always @clk z[a] <= b; always @clk z[3] <= 0;", api.FDrive, 9},
		{"always @clk z[3] <= b; always @clk begin z[a] <= 1; z[a] <= 0; end", api.FDrive, 9},
		{"always @clk z[3] <= b; always @clk z[2] <= 1;", 0, 0},
		{"always @clk s[0] <= a; always @clk s[1] <= b;", api.FDrive, 10},
		{"always @clk begin s[0] <= a; s[a] <= b; end", 0, 0},
		{"assign y = 1; assign y = 2; assign w = 1; assign w = 2; always @clk z <= 1; always @clk z <= 2;", api.FDrive, 4},
		{"k i (.i(a), .j(w)); assign w = b;", api.FDrive, 4},
		{"k i (.i(a), .j(w)); k l (.i(a), .j(w));", api.FDrive, 4},

		{"always @clk o = a;", api.FRace, 3},
		{"always @clk if (0) o = a;", api.FRace, 3},
		{"always @clk o <= a;", 0, 0},
		{"always @* o = a;", 0, 0},
		{"always @clk begin r = a; r <= b; end", api.FRace, 7},
		{"always @clk begin z[0] = a; z[3:1] <= b; end", 0, 0},
		{"always @clk begin z[0] = a; z[b] <= b; end", api.FRace, 9},
		{"always @clk if (b) r = a; else r <= b;", api.FRace, 7},
		{"always @clk r = a; assign w = r;", api.FRace, 7},
		{"assign w = r; always @clk r = a;", api.FRace, 7},
		{"always @clk r = a; always @clk u <= r;", api.FRace, 7},
		{"always @clk r = a; always @clk u <= b ? r : 0;", api.FRace, 7},
		{"always @clk r = a; always @clk if (r) u <= 1;", api.FRace, 7},
		{"always @clk r = a; always @clk z[r] <= 1;", api.FRace, 7},
		{"always @clk r = a; always @clk s[r] <= 1;", api.FRace, 7},
		{"always @clk r = a; assign x = s[r];", api.FRace, 7},
		{"always @clk r = a; assign x = z[r];", api.FRace, 7},
		{"always @clk r = a; assign x = z[{1'd0, r} + 2'd1] + 1;", api.FRace, 7},
		{"always @clk r = a; k i (.i(r));", api.FRace, 7},
		{"always @clk begin r = a; u <= r; end", 0, 0},
		{"always @clk begin u <= r; r = a; end", 0, 0},
		{"always @clk z[0] = a; assign w = z[1];", 0, 0},
		{"always @clk z[0] = a; assign w = z[3:1];", 0, 0},
		{"always @clk z[0] = a; assign w = z[2:0];", api.FRace, 9},
		{"always @clk z[0] = a; assign w = z >> 1;", api.FRace, 9},
		{"always @clk z[3] = a; assign w = z;", api.FRace, 9},
		{"always @clk z[0] = a; assign w = z[a];", api.FRace, 9},
		{"always @clk z[a] = a; assign w = z[3];", api.FRace, 9},
		{"always @clk z[3] = a; always @clk z[2:0] <= z[2:0] + 1;", 0, 0},
		{"always @clk begin z = a; s[z] <= b; end assign x = s[a];", 0, 0},
		{"always @clk begin v = 1; v <= 2; end always @clk r = a; always @clk u <= r;", api.FRace, 7},
		{"always @clk r <= a; assign w = r; always @clk u <= r;", 0, 0},
		// A process that sets a bit ahead of reading it sets it too: that is told first.
		{"always @clk r = a; always @* begin r = b; u = r; end", api.FDrive, 7},
		{"assign w = 1; assign w = 0; always @clk begin r = a; r <= b; end", api.FDrive, 4},
		{"assign y = 1; assign y = 0; always @clk o = a;", api.FDrive, 6},

		{"always @* if (a) r = 1;", api.FLatch, 7},
		{"always @* if (a) r = 1; else begin end", api.FLatch, 7},
		{"always @* if (a) begin end else r = 1;", api.FLatch, 7},
		{"always @* if (a) r = 1; else r = 0;", 0, 0},
		{"always @* if (a) r = 1; else u = 0;", api.FLatch, 7},
		{"always @* begin if (a) r = 1; else u = 0; if (b) u = 1; r = 1; u = 1; end", 0, 0},
		{"always @* begin if (a) r = 1; if (!a) r = 0; end", api.FLatch, 7},
		{"always @* begin if (a) r = 1; else if (b) r = 0; else r = 1; end", 0, 0},
		{"always @* begin if (a) r = 1; else if (b) r = 0; end", api.FLatch, 7},
		{"always @* begin if (a) begin if (b) r = 1; end else r = 0; end", api.FLatch, 7},
		{"always @* begin if (a) begin if (b) r = 1; r = 0; end else r = 0; end", 0, 0},
		{"always @* if (1) r = 1;", api.FLatch, 7},
		{"always @* case (a) 0: r = 1; 1, 2, 3: r = 0; endcase", api.FLatch, 7},
		{"always @* case (a) 0: r = 1; default: r = 0; endcase", 0, 0},
		{"always @* case (a) 0: r = 1; 1: ; default: r = 0; endcase", api.FLatch, 7},
		{"always @* begin z[1:0] = a; if (b) z[3] = 1; else z[3] = 0; z[2] = 1; end", 0, 0},
		{"always @* begin z[1:0] = a; if (b) z[3] = 1; else z[2] = 1; z[2] = 0; end", api.FLatch, 9},
		{"always @* begin z[1:0] = a; if (b) z[3] = 1; else z[3:2] = 1; end", api.FLatch, 9},
		{"always @* begin if (b) z = 1; else begin z[1:0] = 1; z[3:2] = 1; end end", 0, 0},
		{"always @* z[1:0] = a;", 0, 0},
		{"always @* z[a] = 1;", api.FLatch, 9},
		{"always @* begin z[a] = 1; z = 0; end", 0, 0},
		{"always @* begin z = 0; z[a] = 1; end", 0, 0},
		{"always @* if (b) z[a] = 1; else z = 0;", api.FLatch, 9},
		{"always @* for (i = 0; i < 4; i = i + 1) z[i] = i == a;", 0, 0},
		{"always @* for (i = 0; i < 3; i = i + 1) begin z[i + 1] = z[i]; z[i] = i == a; end", api.FLatch, 9},
		{"always @* begin z[0] = b; for (i = 0; i < 3; i = i + 1) z[i + 1] = z[i] & a[0]; end", 0, 0},
		{"always @* begin u = r; r = a; end", api.FLatch, 7},
		{"always @* begin r = a; u = r; end", 0, 0},
		{"always @* r = r + 1;", api.FLatch, 7},
		{"always @* begin r = b; r = r + 1; end", 0, 0},
		{"always @* begin if (a) r = b; u = r; r = 1; end", api.FLatch, 7},
		{"always @* begin if (a) r = b; else begin u = r; r = 0; end u = 0; end", api.FLatch, 7},
		{"always @* begin if (a) begin r = b; u = r; end else begin r = 0; u = r; end end", 0, 0},
		{"always @* begin if (r) u = 1; else u = 0; r = 1; end", api.FLatch, 7},
		{"always @* begin z = 0; z[r] = 1; r = a; end", api.FLatch, 7},
		{"always @* begin z = 0; {r, z[r]} = a; end", api.FLatch, 7},
		{"always @* begin z = 0; {z[r], r} = a; end", api.FLatch, 7},
		{"always @* begin z = 0; r = 0; {z[r], r} = a; end", 0, 0},
		{"always @* begin u = z[0]; z[3:1] = a; end", 0, 0},
		{"always @* begin u = z[1]; z[3:1] = a; end", api.FLatch, 9},
		{"always @* begin u = z[b]; z[3:1] = a; end", api.FLatch, 9},
		{"always @* begin z[0] = a; u = z[1:0]; z[1] = b; end", api.FLatch, 9},
		{"always @* begin z[1:0] = a; u = z[1:0]; z[3:2] = b; end", 0, 0},
		{"assign w = w;", api.FLatch, 4},
		{"assign x = {x[2:0], b};", api.FLatch, 5},
		{"assign x[3:1] = x[2:0];", api.FLatch, 5},
		{"assign x[3] = x[0];", 0, 0},
		{"assign x[3] = x[a];", api.FLatch, 5},
		{"assign x[3] = x;", api.FLatch, 5},
		{"always @clk if (a) r = r + 1;", 0, 0},
		{"always @clk if (a) z[a] <= z[b];", 0, 0},
		{"always @clk s[a] <= s[b];", 0, 0},
		{"assign w = w; always @* if (a) o = 1;", api.FLatch, 3},
		{"always @* if (a) z = 1; always @clk begin v = 1; v <= 1; end", api.FRace, 11},
		{"assign q = q; always @clk begin v <= 1; end always @clk v <= 2;", api.FDrive, 11},

		{"assign w = x; assign x = w;", api.FLoop, 0},
		{"assign q = a; assign w = x; assign x = w;", api.FLoop, 1},
		{"assign w = x; assign x = y; assign y = b ? w : 0;", api.FLoop, 0},
		{"assign q = w; assign w = x; assign x = w; always @* v = q;", api.FLoop, 1},
		{"assign x[1] = x[0]; assign x[2] = x[1]; assign x[3] = x[2]; assign x[0] = b;", 0, 0},
		{"assign x[1] = x[0]; assign x[2] = x[1]; assign x[3] = x[2]; assign x[0] = x[3];", api.FLoop, 0},
		{"assign w = 1; assign x[3:2] = x[1:0]; assign x[1:0] = {x[2], b};", api.FLoop, 1},
		{"assign x[3:2] = x[1:0]; assign x[1:0] = {b, b} + x[a];", api.FLatch, 5},
		{"assign x[3:2] = y; assign y = x;", api.FLoop, 0},
		{"assign x[3:2] = y; assign y = x[1:0];", 0, 0},
		{"assign x[3:2] = y; assign y = x[2:1];", api.FLoop, 0},
		{"always @clk r <= w; assign w = r;", 0, 0},
		{"always @clk r <= w; assign w = r; assign x = y; assign y = x;", api.FLoop, 2},
		{"always @* if (w) r = 1; else r = 0; assign w = r;", api.FLoop, 0},
		{"always @* begin z = 0; z[w] = 1; end assign w = z[0];", api.FLoop, 0},
		{"always @* begin r = 0; u = r; end assign w = u; assign q = r;", 0, 0},
		{"always @* begin r = 0; u = r; end assign w = u; assign q = w; always @* v = q;", 0, 0},
		{"always @* begin z = 0; z[0] = w; end assign w = z[1];", api.FLoop, 0},
		// Two rings; a process between them is in none.
		{"assign x = q; assign q = w; assign w = q; always @* v = x; assign y[0] = y[1]; assign y[1] = {y[0], v};", api.FLoop, 1},
		{"k i (.i(w), .j(w));", 0, 0},
	} {
		t.Run(c.text, func(t *testing.T) {
			wants(t, designOf(t, head+c.text+" endmodule"), c.code, c.at)
		})
	}
}

func TestDocument(t *testing.T) {
	wants(t, designOf(t, "module m (input a, output reg q); always @* if (a) q = 1; endmodule"), api.FLatch, 1)
	wants(t, designOf(t, "module m (input a, output q); assign q = a; assign q = 1; endmodule"), api.FDrive, 1)
	wants(t, designOf(t, "module m (); wire [1:0] x; wire [1:0] y; assign x = y; assign y = x + 1; endmodule"), api.FLoop, 0)
	wants(t, designOf(t, `module m #(W = 4) (input [W - 1:0] a, input en, output [W - 1:0] q, output odd);
reg [W - 1:0] r = 5; assign q = r + (en ? a : 1); assign odd = ^r; always @clk if (en) r <= r + a; endmodule`), 0, 0)
	wants(t, designOf(t, "module m (output [1:0] q); reg a; reg b = 1; assign q = {a, b}; always @clk a = b; always @clk b = a; endmodule"), api.FRace, 1)
	wants(t, designOf(t, "module m (output [1:0] q); reg a; reg b = 1; assign q = {a, b}; always @clk a <= b; always @clk b <= a; endmodule"), 0, 0)
}

func TestUses(t *testing.T) {
	lib := "module inv (input a, output q); assign q = !a; endmodule module ff (input d, output reg q); always @clk q <= d; endmodule "
	// A ring of three of them is a ring; its least process lies in the first one.
	wants(t, designOf(t, lib+"module m (output q); wire [2:0] w; assign q = w[0]; for (i = 0; i < 3; i = i + 1) begin : g inv u (.a(w[i]), .q(w[i == 2 ? 0 : i + 1])); end endmodule"), api.FLoop, 1)
	wants(t, designOf(t, lib+"module m (output q); wire [3:0] w; assign w[0] = 0; assign q = w[3]; for (i = 0; i < 3; i = i + 1) begin : g inv u (.a(w[i]), .q(w[i + 1])); end endmodule"), 0, 0)
	wants(t, designOf(t, lib+"module m (output q); wire [1:0] w; assign q = w[0]; ff f (.d(w[1]), .q(w[0])); inv u (.a(w[0]), .q(w[1])); endmodule"), 0, 0)
	wants(t, designOf(t, lib+"module m (input d); wire w; ff f (.d(d), .q(w)); ff g (.d(d), .q(w)); endmodule"), api.FDrive, 1)
}

// set is an act that sets a whole net to a number.
func set(net, width int, later bool) api.Act {
	return api.Act{Kind: api.ASet, Later: later, To: []api.Dest{{Net: net, Width: width}}, Value: api.Exp{Kind: api.XNum, Width: width}}
}

func TestInputDriven(t *testing.T) {
	d := api.Design{
		Nets:    []api.Net{{Width: 1}, {Width: 2, Dir: 1}, {Width: 2, Dir: 1}, {Width: 2, Dir: 2}},
		Inputs:  []int{1, 2},
		Outputs: []int{3},
		Procs:   []api.Proc{{Acts: []api.Act{set(3, 2, false)}}},
	}
	wants(t, d, 0, 0)
	one := api.Act{Kind: api.ASet, To: []api.Dest{{Net: 2, Lo: 1, Width: 1}}, Value: api.Exp{Kind: api.XNum, Width: 1}}
	d.Procs = append(d.Procs, api.Proc{Acts: []api.Act{one}})
	wants(t, d, api.FDrive, 2)
	d.Procs[1] = api.Proc{Clocked: true, Acts: []api.Act{set(1, 2, true)}}
	wants(t, d, api.FDrive, 1)
	d.Procs = append(d.Procs, api.Proc{Clocked: true, Acts: []api.Act{set(0, 1, true)}}, api.Proc{Clocked: true, Acts: []api.Act{set(0, 1, true)}})
	wants(t, d, api.FDrive, 0)
}

// Two branches read one list in memory: what is set ahead of it in the first one is not in the second.
func TestSharedList(t *testing.T) {
	read := api.Exp{Kind: api.XNot, Width: 1, Args: []api.Exp{{Kind: api.XNet, Width: 1, Net: 0}}}
	use := api.Act{Kind: api.ASet, To: []api.Dest{{Net: 1, Width: 1}}, Value: read}
	branches := func(then, other []api.Act) api.Design {
		asked := api.Exp{Kind: api.XNet, Width: 1, Net: 2}
		return api.Design{
			Nets:   []api.Net{{Width: 1}, {Width: 1}, {Width: 1, Dir: 1}},
			Inputs: []int{2},
			Procs:  []api.Proc{{Acts: []api.Act{{Kind: api.AIf, If: asked, Then: then, Else: other}}}},
		}
	}
	wants(t, branches([]api.Act{set(0, 1, false), use}, []api.Act{set(0, 1, false), use}), 0, 0)
	wants(t, branches([]api.Act{set(0, 1, false), use}, []api.Act{use, set(0, 1, false)}), api.FLatch, 0)
	wants(t, branches([]api.Act{use, set(0, 1, false)}, []api.Act{set(0, 1, false), use}), api.FLatch, 0)
	d := branches([]api.Act{set(0, 1, false), use}, []api.Act{set(1, 1, false)})
	d.Procs[0].Acts = append(d.Procs[0].Acts, use, set(0, 1, false))
	wants(t, d, api.FLatch, 0)
}

// What is no design gives a fault, and no panic.
func TestNoDesign(t *testing.T) {
	for _, d := range []api.Design{
		{Inputs: []int{0}},
		{Outputs: []int{7}},
		{Procs: []api.Proc{{Acts: []api.Act{{}}}}},
		{Procs: []api.Proc{{Acts: []api.Act{{Kind: api.ASet, Value: api.Exp{Kind: api.XNet, Net: 3}}}}}},
		{Procs: []api.Proc{{Acts: []api.Act{{Kind: api.ASet, Value: api.Exp{Kind: api.XSlice}}}}}},
		{Procs: []api.Proc{{Acts: []api.Act{{Kind: api.ASet, To: []api.Dest{{Net: -1, Width: -3}}}}}}},
		{Procs: []api.Proc{{Acts: []api.Act{{Kind: api.ASet, To: []api.Dest{{Net: -1, Dyn: true}}}}}}},
	} {
		if err := Check(d); err != nil {
			if code, at := api.Code(err); code != api.FKind || at != 0 {
				t.Errorf("fault %d at %d: %+v", code, at, d)
			}
		}
	}
}

// A design that nothing is found in runs the same in every order, whatever waits in it.
func TestOrders(t *testing.T) {
	text := `module m (input [3:0] a, output reg [3:0] q, output [3:0] p); reg [3:0] r; reg [3:0] s [0:3]; wire [4:0] c; reg [3:0] k;
assign c[0] = a[0]; ` + "for (i = 0; i < 4; i = i + 1) begin : g assign c[i + 1] = c[i] ^ r[i]; end" + `
assign p = c[4:1] + s[a]; always @* begin q = 1; if (a > 3) q = p; else q[1] = c[4]; end
always @clk begin k = q + r; r <= k; s[k] <= a; end always @clk if (p) ; endmodule`
	d := designOf(t, text)
	wants(t, d, 0, 0)
	trace := [][]uint64{{1}, {7}, {3}, {15}, {2}, {2}, {9}}
	first, err := sim.Run(d, trace, nil)
	if err != nil {
		t.Fatal(err)
	}
	for k := range 60 {
		rows, err := sim.Run(d, trace, []int{k, 7 * k, k % 5, 3})
		if err != nil || !equalRows(rows, first) {
			t.Fatalf("%v, %v, want %v", rows, err, first)
		}
	}
}
