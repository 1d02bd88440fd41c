package flow

import (
	"reflect"
	"strings"
	"testing"

	"gatewright/api"
)

func holdFault(t *testing.T, what string, err error, code, at int) {
	t.Helper()
	gotCode, gotAt := api.Code(err)
	if gotCode != code || gotAt != at {
		t.Errorf("%s: fault %d at %d, want %d at %d", what, gotCode, gotAt, code, at)
	}
}

// The faults of each layer, each as a module of its own: faulty is a text that each of them may be taken from.
const faulty = `module fine (input a, output q); assign q = ~a; endmodule
module lost (input a, output q); assign q = b; endmodule
module unused (input a, output q); fine f (.a(a), .r(q)); endmodule
module twice (input a, output q); assign q = a; assign q = a; endmodule
module early (input a, output q); reg r; assign q = r; always @clk r = a; endmodule
module latch (input a, output reg q); always @* if (a) q = 1; endmodule
module ring (input a, output q); wire x, y; assign q = x; assign x = y + a; assign y = x; endmodule
module nodes (input [31:0] a, output reg [31:0] q); always @* begin q = a; for (i = 0; i < 256; i = i + 1) for (k = 0; k < 77; k = k + 1) q = (q * 77 + i) ^ (q >> k); end endmodule
module gates (input [31:0] a, input [7:0] i, output [31:0] q); reg [31:0] k [0:255]; assign q = k[i]; always @clk k[i] <= a; endmodule
module large (input [31:0] a, input [31:0] b, output [31:0] q); assign q = a * b; endmodule
`

// tiny has a row, a column, and nothing else: no module here but those without an output fits.
var tiny = api.Shape{Rows: 1, Cols: 1}

// offByte tells where in faulty a piece stands.
func offByte(piece string) int { return strings.Index(faulty, piece) }

// TestFaultsOfLayers: the fault of the first layer that has one, though all that come behind it would have one, too.
func TestFaultsOfLayers(t *testing.T) {
	for _, c := range []struct {
		text, top string
		s         api.Shape
		code, at  int
	}{
		{strings.Repeat(" ", api.MaxText-len(faulty)) + faulty + "(", "lost", tiny, api.FLong, 0},
		{faulty + "(", "none", tiny, api.FText, len(faulty)},
		{"module m", "m", tiny, api.FText, 8},
		{faulty, "none", tiny, api.FName, 0},
		{faulty, "", room, api.FName, 0},
		{faulty, "lost", tiny, api.FName, offByte("b; endmodule")},
		{faulty, "unused", tiny, api.FPort, offByte(".r(q)")},
		{faulty + faulty, "lost", tiny, api.FTwice, len(faulty)},
		{faulty, "twice", tiny, api.FDrive, 1},
		{faulty, "early", tiny, api.FRace, 2},
		{faulty, "latch", tiny, api.FLatch, 1},
		{faulty, "ring", tiny, api.FLoop, 1},
		{faulty, "nodes", tiny, api.FBig, 0},
		{faulty, "gates", tiny, api.FBig, 0},
		{faulty, "fine", tiny, api.FFit, 0},
		{faulty, "fine", api.Shape{}, api.FFit, 0},
		{faulty, "fine", api.Shape{Inputs: -1, Outputs: -1, Regs: -1, Rows: -1, Cols: -1}, api.FFit, 0},
		{faulty, "fine", api.Shape{Inputs: 1, Outputs: 1, Rows: 501, Cols: 1}, api.FFit, 0},
		{faulty, "fine", api.Shape{Inputs: 1, Outputs: 1, Rows: 1, Cols: 101}, api.FFit, 0},
		{faulty, "fine", api.Shape{Inputs: 1, Outputs: 1, Rows: 1 << 62, Cols: 1 << 62}, api.FFit, 0},
		{faulty, "large", room, api.FFit, 0},
	} {
		b, err := Build(c.text, c.top, c.s)
		holdFault(t, "Build "+c.top, err, c.code, c.at)
		if b != nil {
			t.Errorf("Build %s: bytes beside a fault", c.top)
		}
		rows, err := Play(c.text, c.top, c.s, make([][]uint64, 2))
		holdFault(t, "Play "+c.top, err, c.code, c.at)
		if rows != nil {
			t.Errorf("Play %s: rows beside a fault", c.top)
		}
	}
}

// TestLeastShapes: with one less of what a module cannot do without it does not fit.
func TestLeastShapes(t *testing.T) {
	least := leastOf(t, one, "one")
	if _, err := Build(one, "one", least); err != nil {
		t.Fatalf("%+v: %v", least, err)
	}
	for _, less := range []api.Shape{{Inputs: 1}, {Outputs: 1}, {Regs: 1}, {Cols: 1}, {Rows: least.Rows - 4}} {
		s := api.Shape{Inputs: least.Inputs - less.Inputs, Outputs: least.Outputs - less.Outputs, Regs: least.Regs - less.Regs, Rows: least.Rows - less.Rows, Cols: least.Cols - less.Cols}
		_, err := Build(one, "one", s)
		holdFault(t, "Build", err, api.FFit, 0)
	}
}

// TestSimulateFaults: those of layers 1 to 3 alone.
func TestSimulateFaults(t *testing.T) {
	for _, c := range []struct {
		text, top string
		code, at  int
	}{
		{strings.Repeat(" ", api.MaxText+1), "m", api.FLong, 0},
		{faulty + ")", "none", api.FText, len(faulty)},
		{faulty, "none", api.FName, 0},
		{faulty, "lost", api.FName, offByte("b; endmodule")},
		{faulty, "ring", api.FLoop, 2},
	} {
		rows, err := Simulate(c.text, c.top, [][]uint64{{0}, {0}, {1}}, nil)
		holdFault(t, "Simulate "+c.top, err, c.code, c.at)
		if rows != nil {
			t.Errorf("Simulate %s: rows beside a fault", c.top)
		}
	}
	for _, top := range []string{"fine", "twice", "early", "latch", "gates", "large"} {
		rows, err := Simulate(faulty, top, make([][]uint64, 3), nil)
		holdFault(t, "Simulate "+top, err, 0, 0)
		if len(rows) != 3 || len(rows[2]) != 1 {
			t.Errorf("Simulate %s: %v", top, rows)
		}
	}
}

// TestCompareFaults: all of the first module's faults are ahead of those of the second one.
func TestCompareFaults(t *testing.T) {
	lost := offByte("b; endmodule")
	for _, c := range []struct {
		text, one, other string
		code, at         int
	}{
		{strings.Repeat(" ", api.MaxText+1), "m", "m", api.FLong, 0},
		{faulty + ")", "none", "lost", api.FText, len(faulty)},
		{faulty, "none", "lost", api.FName, 0},
		{faulty, "lost", "none", api.FName, lost},
		{faulty, "fine", "none", api.FName, 0},
		{faulty, "fine", "lost", api.FName, lost},
		{faulty, "latch", "lost", api.FLatch, 1},
		{faulty, "lost", "latch", api.FName, lost},
		{faulty, "twice", "early", api.FDrive, 1},
		{faulty, "early", "twice", api.FRace, 2},
		{faulty, "fine", "ring", api.FLoop, 1},
		{faulty, "gates", "unused", api.FBig, 0},
		{faulty, "unused", "gates", api.FPort, offByte(".r(q)")},
		{faulty, "fine", "gates", api.FBig, 0},
		{faulty, "nodes", "none", api.FBig, 0},
	} {
		v, err := Compare(c.text, c.one, c.other, 3)
		holdFault(t, "Compare "+c.one+" "+c.other, err, c.code, c.at)
		if !reflect.DeepEqual(v, api.Verdict{}) {
			t.Errorf("Compare %s %s: a verdict beside a fault", c.one, c.other)
		}
	}
}
