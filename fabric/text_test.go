package fabric

import (
	"math/rand"
	"slices"
	"testing"

	"gatewright/aig"
	"gatewright/api"
	"gatewright/elab"
	"gatewright/lut"
	"gatewright/parse"
	"gatewright/place"
	"gatewright/sim"
	"gatewright/stream"
	"gatewright/sweep"
	"gatewright/word"
)

// lowered gives the design and the netlist of a text's module m.
func lowered(t *testing.T, text string) (api.Design, api.Netlist) {
	t.Helper()
	ms, err := parse.Text(text)
	if err != nil {
		t.Fatal(err, text)
	}
	d, err := elab.Design(ms, "m")
	if err != nil {
		t.Fatal(err, text)
	}
	n, err := word.Lower(d)
	if err != nil {
		t.Fatal(err, text)
	}
	return d, n
}

// streamOf gives the bits of a netlist on a fabric of a shape that is larger than must do.
func streamOf(t *testing.T, n api.Netlist) []byte {
	t.Helper()
	g, err := aig.Blast(n)
	if err != nil {
		t.Fatal(err)
	}
	c, err := place.Fit(lut.Map(sweep.Graph(g)), api.Shape{Inputs: 70, Outputs: 80, Regs: 75, Rows: 400, Cols: 20})
	if err != nil {
		t.Fatal(err)
	}
	return stream.Encode(c)
}

// spelled gives words as bits, the lowest first.
func spelled(row []uint64, widths []int) []bool {
	bits := []bool{}
	for i, width := range widths {
		for k := range width {
			bits = append(bits, row[i]>>k&1 == 1)
		}
	}
	return bits
}

// TestTexts: what texts mean, the fabric shows.
func TestTexts(t *testing.T) {
	r := rand.New(rand.NewSource(21))
	for _, text := range []string{
		"module m #(W = 4) (input [W - 1:0] a, input en, output [W - 1:0] q, output odd); reg [W - 1:0] r = 5; assign q = r + (en ? a : 1); assign odd = ^r; always @clk if (en) r <= r + a; endmodule",
		"module m (input [3:0] a, input [3:0] b, output [3:0] p, output l); assign p = a * b; assign l = a < b; endmodule",
		"module m (input [1:0] i, input v, input w, output q); reg [1:0] k [0:3]; assign q = ^k[i]; always @clk if (w) k[i] <= {k[i + 1], v}; endmodule",
		"module m (input [7:0] s, output [7:0] q, output z); reg [7:0] x = 77; assign q = ~x; assign z = ~&x; always @clk x <= {x[6:0], ^x} ^ s; endmodule",
		"module m (output [31:0] q, output [31:0] p); reg [31:0] r = 3; assign q = r; assign p = ~r; always @clk r <= ~r; endmodule",
		"module m (input [31:0] a, output [31:0] q, output p); reg [31:0] r; assign q = ~r; assign p = &(r ^ a); always @clk r <= ~a; endmodule",
	} {
		d, n := lowered(t, text)
		var outputs []int
		for _, o := range n.Outputs {
			outputs = append(outputs, n.Nodes[o].Width)
		}
		var trace [][]uint64
		var bits [][]bool
		for range 60 {
			var row []uint64
			for _, width := range n.Inputs {
				row = append(row, r.Uint64()>>(64-width))
			}
			trace = append(trace, row)
			bits = append(bits, spelled(row, n.Inputs))
		}
		want, err := sim.Run(d, trace, nil)
		if err != nil {
			t.Fatal(err, text)
		}
		rows, err := Run(streamOf(t, n), bits)
		if err != nil {
			t.Fatal(err, text)
		}
		for i, row := range rows {
			shown := spelled(want[i], outputs)
			if len(row) != 80 || !slices.Equal(row[:len(shown)], shown) {
				t.Fatalf("%s: cycle %d: %v, want %v", text, i, row, shown)
			}
		}
	}
}

// TestNets: the same of nets of tables, whatever stands in them.
func TestNets(t *testing.T) {
	r := rand.New(rand.NewSource(22))
	for range 500 {
		n := api.Tables{Inputs: r.Intn(5)}
		registers, tables := r.Intn(5), r.Intn(14)
		for i := range tables {
			table := api.Table{}
			for range r.Intn(5) {
				table.Ins = append(table.Ins, r.Intn(2+n.Inputs+registers+i))
			}
			table.Bits = r.Intn(1 << (1 << len(table.Ins)))
			n.Tables = append(n.Tables, table)
		}
		all := 2 + n.Inputs + registers + tables
		for range registers {
			n.Init, n.Next = append(n.Init, r.Intn(2) == 0), append(n.Next, r.Intn(all))
		}
		for range 1 + r.Intn(6) {
			n.Outputs = append(n.Outputs, r.Intn(all))
		}
		// As many inputs as the net has: what a trace has beyond them counts for nothing here and there.
		c, err := place.Fit(n, api.Shape{Inputs: n.Inputs, Outputs: len(n.Outputs), Regs: registers + r.Intn(3), Rows: 25, Cols: 14 + r.Intn(3)})
		if err != nil {
			t.Fatal(err)
		}
		trace := rowsOf(r, n.Inputs, 8)
		holdRows(t, stream.Encode(c), trace, lut.Run(n, trace))
	}
}
