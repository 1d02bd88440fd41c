package flow

import (
	"bytes"
	"reflect"
	"slices"
	"testing"

	"gatewright/api"
	"gatewright/fabric"
	"gatewright/parse"
	"gatewright/stream"
)

// one is the text T of the document.
const one = `module one #(W = 4) (input [W - 1:0] a, input en, output [W - 1:0] q, output odd);
reg [W - 1:0] r = 5;
assign q = r + (en ? a : 1);
assign odd = ^r;
always @clk if (en) r <= r + a;
endmodule
`

// room is enough for all texts here, and of each thing there is more than they need.
var room = api.Shape{Inputs: 70, Outputs: 40, Regs: 40, Rows: 300, Cols: 15}

func hold(t *testing.T, what string, got, want any) {
	t.Helper()
	if !reflect.DeepEqual(got, want) {
		t.Errorf("%s: %v, want %v", what, got, want)
	}
}

// TestExample: the document's example, at each door.
func TestExample(t *testing.T) {
	trace := [][]uint64{{3, 1}, {2, 0}, {15, 1}}
	want := [][]uint64{{8, 0}, {9, 1}, {7, 1}}
	rows, err := Simulate(one, "one", trace, nil)
	hold(t, "Simulate", rows, want)
	hold(t, "Simulate", err, nil)
	rows, err = Play(one, "one", room, trace)
	hold(t, "Play", rows, want)
	hold(t, "Play", err, nil)
	b, err := Build(one, "one", room)
	hold(t, "Build", err, nil)
	bits, err := fabric.Run(b, [][]bool{{true, true, false, false, true}, {false, true, false, false, false}, {true, true, true, true, true}})
	hold(t, "fabric.Run", err, nil)
	for i, bit := range [][]bool{{false, false, false, true, false}, {true, false, false, true, true}, {true, true, true, false, true}} {
		hold(t, "the fabric", bits[i][:5], bit)
	}
}

// TestShapes: bytes are of the shape that is asked for; what a fabric has beyond a module is not seen.
func TestShapes(t *testing.T) {
	least := leastOf(t, one, "one")
	trace := [][]uint64{{3, 1}, {2, 0}, {15, 1}, {15, 1}}
	want, _ := Simulate(one, "one", trace, nil)
	for _, more := range []api.Shape{{}, {Inputs: 3}, {Outputs: 3}, {Regs: 3}, {Rows: 3}, {Cols: 3}, {Inputs: 495, Outputs: 495, Regs: 496, Rows: 500 - least.Rows, Cols: 100 - least.Cols}} {
		s := api.Shape{Inputs: least.Inputs + more.Inputs, Outputs: least.Outputs + more.Outputs, Regs: least.Regs + more.Regs, Rows: least.Rows + more.Rows, Cols: least.Cols + more.Cols}
		b, err := Build(one, "one", s)
		if err != nil {
			t.Fatalf("%+v: %v", s, err)
		}
		c, err := stream.Decode(b)
		hold(t, "Decode", err, nil)
		hold(t, "the shape", c.Shape, s)
		rows, err := Play(one, "one", s, trace)
		hold(t, "Play", rows, want)
		hold(t, "Play", err, nil)
	}
}

// TestRows: what is missing is 0, what is too much counts for nothing; it is so at both doors.
func TestRows(t *testing.T) {
	const text = "module m (input [2:0] a, input b, input [31:0] c, output p, output [31:0] s, output [2:0] q); assign q = ~a; assign p = b; assign s = c + a; endmodule"
	const none = "module m (); endmodule"
	const still = "module m (output [4:0] q); assign q = 21; endmodule"
	const deaf = "module m (input a); endmodule"
	for _, c := range []struct {
		text        string
		trace, want [][]uint64
	}{
		{text, nil, [][]uint64{}},
		{text, [][]uint64{}, [][]uint64{}},
		{text, [][]uint64{nil, {9}, {1 << 63, 3}, {7, 2, 1<<32 - 1, 5}, {6, 1, 1<<40 + 2}},
			[][]uint64{{0, 0, 7}, {0, 1, 6}, {1, 0, 7}, {0, 6, 0}, {1, 8, 1}}},
		{none, [][]uint64{nil, {1, 2}}, [][]uint64{{}, {}}},
		{still, [][]uint64{nil, {1}}, [][]uint64{{21}, {21}}},
		{deaf, [][]uint64{{0}, {1}}, [][]uint64{{}, {}}},
	} {
		rows, err := Simulate(c.text, "m", c.trace, nil)
		hold(t, "Simulate "+c.text, rows, c.want)
		hold(t, "Simulate", err, nil)
		rows, err = Play(c.text, "m", room, c.trace)
		hold(t, "Play "+c.text, rows, c.want)
		hold(t, "Play", err, nil)
	}
}

// TestOrders: Simulate runs what Build refuses, and there the order shows.
func TestOrders(t *testing.T) {
	const text = "module m (output p, output q); reg a = 1; reg b; assign p = a; assign q = b; always @clk a = b; always @clk b = a; endmodule"
	seen := map[[2]uint64]int{}
	for _, order := range [][]int{nil, {0}, {1}, {0, 0, 1}, {1, 1, 0}} {
		rows, err := Simulate(text, "m", make([][]uint64, 2), order)
		hold(t, "Simulate", err, nil)
		hold(t, "at first", rows[0], []uint64{1, 0})
		seen[[2]uint64(rows[1])]++
	}
	if len(seen) != 2 || seen[[2]uint64{0, 0}] == 0 || seen[[2]uint64{1, 1}] == 0 {
		t.Errorf("seen: %v", seen)
	}
	_, err := Build(text, "m", room)
	holdFault(t, "Build", err, api.FRace, 2)
}

// TestPrinted: a text that is printed is built into the same bytes.
func TestPrinted(t *testing.T) {
	for _, c := range []struct{ text, top string }{
		{one, "one"},
		{leaves, "hold"},
		{leaves, "most"},
		{leaves + "/* */ module m (input[7:0]a,output q);assign q=a[0]?a[1]&a[2]|~a[3]:^a;// end\nendmodule", "m"},
	} {
		ms, err := parse.Text(c.text)
		hold(t, "Text", err, nil)
		want, err := Build(c.text, c.top, room)
		if err != nil || len(want) == 0 {
			t.Fatalf("%v: %s", err, c.text)
		}
		got, err := Build(parse.Print(ms), c.top, room)
		if err != nil || !bytes.Equal(got, want) {
			t.Errorf("other bytes, %v: %s", err, c.text)
		}
		again, _ := Build(c.text, c.top, room)
		hold(t, "once more", again, want)
	}
}

// TestMemory: nothing that is handed in is changed, and no two answers share memory.
func TestMemory(t *testing.T) {
	trace := [][]uint64{{3, 1, 8}, {99}, nil, {15, 1 << 50}}
	kept := make([][]uint64, len(trace))
	for i := range trace {
		kept[i] = slices.Clone(trace[i])
	}
	order := []int{3, -1, 2}
	doors := []func() [][]uint64{
		func() [][]uint64 { rows, _ := Simulate(one, "one", trace, order); return rows },
		func() [][]uint64 { rows, _ := Play(one, "one", room, trace); return rows },
	}
	for _, door := range doors {
		want := door()
		spoilt := door()
		for i := range spoilt {
			row := spoilt[i]
			for k := range row {
				row[k] = 1 << 40
			}
			row = append(row, 1<<41)
			for _, other := range spoilt[i+1:] {
				if slices.Contains(other, 1<<41) || slices.Contains(other, 1<<40) {
					t.Error("rows share memory")
				}
			}
		}
		hold(t, "once more", door(), want)
		hold(t, "the trace", trace, kept)
	}
	hold(t, "the order", order, []int{3, -1, 2})
	b, _ := Build(one, "one", room)
	want := slices.Clone(b)
	clear(b)
	again, _ := Build(one, "one", room)
	hold(t, "Build once more", again, want)
}
