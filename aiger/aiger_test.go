package aiger

import (
	"bytes"
	"math/rand"
	"reflect"
	"slices"
	"strings"
	"testing"

	"gatewright/aig"
	"gatewright/api"
	"gatewright/elab"
	"gatewright/parse"
	"gatewright/word"
)

// grown makes a random graph that is valid; what there is none of is nil.
func grown(r *rand.Rand, inputs, latches, ands, outputs int) api.Graph {
	g := api.Graph{Inputs: inputs}
	literal := func(variables int) int { return r.Intn(2 * variables) }
	for i := range ands {
		v := 1 + inputs + latches + i
		g.Ands = append(g.Ands, [2]int{literal(v), literal(v)})
	}
	all := 1 + inputs + latches + ands
	for range latches {
		g.Latches = append(g.Latches, api.Latch{Next: literal(all), Init: r.Intn(2) == 0})
	}
	for range outputs {
		g.Outputs = append(g.Outputs, literal(all))
	}
	return g
}

func copyOf(g api.Graph) api.Graph {
	g.Latches, g.Ands, g.Outputs = slices.Clone(g.Latches), slices.Clone(g.Ands), slices.Clone(g.Outputs)
	return g
}

// greaterFirst is the graph as Unpack gives it.
func greaterFirst(g api.Graph) api.Graph {
	g = copyOf(g)
	for i, and := range g.Ands {
		g.Ands[i] = [2]int{max(and[0], and[1]), min(and[0], and[1])}
	}
	return g
}

// thereAndBack checks that a graph is read as it was written, in both layouts, and that nobody has changed it.
func thereAndBack(t *testing.T, g api.Graph) {
	t.Helper()
	was := copyOf(g)
	text, packed := Print(g), Pack(g)
	if !reflect.DeepEqual(g, was) {
		t.Fatal("the graph was changed")
	}
	if h, err := Parse(text); err != nil || !reflect.DeepEqual(h, g) {
		t.Fatalf("Parse of what Print gives: %v, %+v, want %+v", err, h, g)
	}
	kept := bytes.Clone(packed)
	h, err := Unpack(packed)
	if err != nil || !reflect.DeepEqual(h, greaterFirst(g)) {
		t.Fatalf("Unpack of what Pack gives: %v, %+v, want %+v", err, h, greaterFirst(g))
	}
	if !bytes.Equal(packed, kept) {
		t.Fatal("the bytes were changed")
	}
	if again := Pack(h); !bytes.Equal(again, packed) {
		t.Fatalf("Pack: %q, then %q", packed, again)
	}
}

func TestByHand(t *testing.T) {
	for _, c := range []struct {
		g            api.Graph
		text, packed string
	}{
		{api.Graph{}, "aag 0 0 0 0 0\n", "aig 0 0 0 0 0\n"},
		{api.Graph{Outputs: []int{0, 1}}, "aag 0 0 0 2 0\n0\n1\n", "aig 0 0 0 2 0\n0\n1\n"},
		{api.Graph{Inputs: 2, Ands: [][2]int{{4, 2}}, Outputs: []int{7}}, "aag 3 2 0 1 1\n2\n4\n7\n6 4 2\n", "aig 3 2 0 1 1\n7\n\x02\x02"},
		{api.Graph{Inputs: 2, Ands: [][2]int{{2, 4}}, Outputs: []int{7}}, "aag 3 2 0 1 1\n2\n4\n7\n6 2 4\n", "aig 3 2 0 1 1\n7\n\x02\x02"},
		{api.Graph{Latches: []api.Latch{{Next: 3}, {Next: 2, Init: true}}}, "aag 2 0 2 0 0\n2 3\n4 2 1\n", "aig 2 0 2 0 0\n3\n2 1\n"},
		{api.Graph{Inputs: 1, Latches: []api.Latch{{Next: 6, Init: true}}, Ands: [][2]int{{3, 5}}}, "aag 3 1 1 0 1\n2\n4 6 1\n6 3 5\n", "aig 3 1 1 0 1\n6 1\n\x01\x02"},
		{api.Graph{Ands: [][2]int{{0, 0}, {1, 1}, {3, 5}}}, "aag 3 0 0 0 3\n2 0 0\n4 1 1\n6 3 5\n", "aig 3 0 0 0 3\n\x02\x00\x03\x00\x01\x02"},
		{api.Graph{Inputs: 62, Ands: [][2]int{{0, 0}, {0, 1}, {129, 1}}}, "", "aig 65 62 0 0 3\n\x7e\x00\x7f\x01\x01\x80\x01"},
		{api.Graph{Inputs: 8191, Ands: [][2]int{{0, 0}, {1, 0}, {16384, 0}, {16387, 2}}}, "", "aig 8195 8191 0 0 4\n\x80\x80\x01\x00\x81\x80\x01\x01\x04\x80\x80\x01\x03\x81\x80\x01"},
	} {
		if got := Print(c.g); c.text != "" && got != c.text {
			t.Errorf("Print: %q, want %q", got, c.text)
		}
		if got := Pack(c.g); string(got) != c.packed {
			t.Errorf("Pack: %q, want %q", got, c.packed)
		}
		thereAndBack(t, c.g)
	}
}

func TestRandomGraphs(t *testing.T) {
	r := rand.New(rand.NewSource(1))
	for i := range 3000 {
		most := 1 + i/10
		g := grown(r, r.Intn(most), r.Intn(most), r.Intn(most), r.Intn(most))
		thereAndBack(t, g)
		if i%100 == 0 {
			trace := make([][]bool, 10)
			for k := range trace {
				for range g.Inputs {
					trace[k] = append(trace[k], r.Intn(2) == 0)
				}
			}
			h, _ := Unpack(Pack(g))
			if !reflect.DeepEqual(aig.Run(h, trace), aig.Run(g, trace)) {
				t.Fatal("what was packed shows something else")
			}
		}
	}
}

// TestBehind: names and a comment count for nothing.
func TestBehind(t *testing.T) {
	g := grown(rand.New(rand.NewSource(2)), 3, 2, 5, 4)
	for _, more := range []string{
		"i0 a\n", "l1 b\n", "o2 c\n", "o2 c\nl1 b\ni0 a\n", "i0 a\ni0 a\n", "i999999999 beyond\n", "i7 no such input\n",
		"i0  \n", "i0 \x00\xff\r\n", "i0 a\tb c\n", "c\n", "c\n\n\n", "c\nx", "c\ni0", "l0 c\nc\nc\nc", "c\n\xff\x00",
	} {
		if h, err := Parse(Print(g) + more); err != nil || !reflect.DeepEqual(h, g) {
			t.Errorf("Parse with %q: %v, %+v", more, err, h)
		}
		if h, err := Unpack(append(Pack(g), more...)); err != nil || !reflect.DeepEqual(h, greaterFirst(g)) {
			t.Errorf("Unpack with %q: %v, %+v", more, err, h)
		}
	}
}

// TestFirstValues: a 0 behind a Next may stand.
func TestFirstValues(t *testing.T) {
	want := api.Graph{Latches: []api.Latch{{Next: 3}, {Next: 2, Init: true}}}
	if g, err := Parse("aag 2 0 2 0 0\n2 3 0\n4 2 1\n"); err != nil || !reflect.DeepEqual(g, want) {
		t.Errorf("Parse: %v, %+v", err, g)
	}
	if g, err := Unpack([]byte("aig 2 0 2 0 0\n3 0\n2 1\n")); err != nil || !reflect.DeepEqual(g, want) {
		t.Errorf("Unpack: %v, %+v", err, g)
	}
}

func TestLimits(t *testing.T) {
	r := rand.New(rand.NewSource(3))
	for _, g := range []api.Graph{
		grown(r, api.MaxGates-1, 0, 0, 60000),
		grown(r, 0, 0, api.MaxGates-1, 60000),
		grown(r, 4000, api.MaxLatch, api.MaxGates-1-4000-api.MaxLatch, 3),
	} {
		if !aig.Valid(g) {
			t.Fatal("no graph")
		}
		thereAndBack(t, g)
	}
	for _, c := range []struct {
		numbers string
		right   bool
	}{
		{"59999 59999 0 0 0", true}, {"60000 60000 0 0 0", false}, {"60000 0 0 0 60000", false}, {"60000 59999 1 0 0", false},
		{"6000 0 6000 0 0", true}, {"6001 0 6001 0 0", false}, {"0 0 0 60000 0", true}, {"0 0 0 60001 0", false},
		{"999999999 999999999 0 0 0", false}, {"0 0 0 999999999 0", false},
	} {
		place := 0 // of the first line that is missing, if the head is right
		if c.right {
			place = len("aig " + c.numbers + "\n")
		}
		_, err := Parse("aag " + c.numbers + "\n")
		if code, at := api.Code(err); code != api.FGraph || (at == 2) != c.right {
			t.Errorf("Parse of %s: %d at %d", c.numbers, code, at)
		}
		_, err = Unpack([]byte("aig " + c.numbers + "\n"))
		if c.numbers == "59999 59999 0 0 0" {
			if err != nil {
				t.Errorf("Unpack of %s: %v", c.numbers, err)
			}
			continue
		}
		if code, at := api.Code(err); code != api.FGraph || at != place {
			t.Errorf("Unpack of %s: %d at %d", c.numbers, code, at)
		}
	}
}

// TestNoGraphs: what is no valid graph is written as nothing, and nothing panics.
func TestNoGraphs(t *testing.T) {
	for _, g := range []api.Graph{
		{Inputs: -1}, {Inputs: 60000}, {Inputs: 1 << 62}, {Outputs: []int{2}}, {Outputs: []int{-1}}, {Ands: [][2]int{{2, 0}}},
		{Ands: [][2]int{{0, -2}}}, {Latches: []api.Latch{{Next: 4}}}, {Latches: make([]api.Latch, 6001)}, {Outputs: make([]int, 60001)},
	} {
		if text, packed := Print(g), Pack(g); text != "" || packed != nil {
			t.Errorf("%.50q, %.50q", text, packed)
		}
	}
}

// TestShared: answers share no memory with what was handed over.
func TestShared(t *testing.T) {
	g := grown(rand.New(rand.NewSource(4)), 3, 2, 5, 4)
	b := Pack(g)
	h, err := Unpack(b)
	if err != nil {
		t.Fatal(err)
	}
	clear(b)
	if !reflect.DeepEqual(h, greaterFirst(g)) {
		t.Error("the graph hangs on the bytes")
	}
	b = Pack(g)
	clear(g.Ands)
	if again, err := Unpack(b); err != nil || !reflect.DeepEqual(again, h) {
		t.Error("the bytes hang on the graph")
	}
}

// TestTexts: graphs of texts of the hardware language, there and back.
func TestTexts(t *testing.T) {
	for _, text := range []string{
		"module m #(W = 4) (input [W - 1:0] a, input en, output [W - 1:0] q, output odd); reg [W - 1:0] r = 5; assign q = r + (en ? a : 1); assign odd = ^r; always @clk if (en) r <= r + a; endmodule",
		"module m (input [31:0] a, input [31:0] b, output [31:0] p); assign p = a * b; endmodule",
		"module m (input [3:0] i, input [7:0] v, output [7:0] q); reg [7:0] k [0:10]; assign q = k[i]; always @clk k[v] <= ~v; endmodule",
	} {
		ms, err := parse.Text(text)
		if err != nil {
			t.Fatal(err)
		}
		d, err := elab.Design(ms, "m")
		if err != nil {
			t.Fatal(err)
		}
		n, err := word.Lower(d)
		if err != nil {
			t.Fatal(err)
		}
		g, err := aig.Blast(n)
		if err != nil {
			t.Fatal(err)
		}
		h, err := Parse(Print(g))
		if err != nil || Print(h) != Print(g) || !aig.Valid(h) {
			t.Errorf("%s: Parse: %v", text, err)
		}
		h, err = Unpack(Pack(g))
		if err != nil || !bytes.Equal(Pack(h), Pack(g)) || !aig.Valid(h) {
			t.Errorf("%s: Unpack: %v", text, err)
		}
		if strings.Count(Print(g), "\n") != 1+g.Inputs+len(g.Latches)+len(g.Outputs)+len(g.Ands) {
			t.Errorf("%s: another number of lines", text)
		}
	}
}
