package flow

import (
	"fmt"
	"math/rand"
	"strings"
)

// leaves are modules that a random text uses. All have the ports x, y, en, z, and the parameter W, the width of x, y and z.
const leaves = `module ripple #(W = 2) (input [W - 1:0] x, input [W - 1:0] y, input en, output [W - 1:0] z);
	wire [W:0] c;
	assign c[0] = en;
	for (i = 0; i < W; i = i + 1) begin : b
		assign z[i] = x[i] ^ y[i] ^ c[i];
		assign c[i + 1] = x[i] & y[i] | c[i] & (x[i] ^ y[i]);
	end
endmodule
module hold #(W = 2, FIRST = 5, BOTH = 0) (input [W - 1:0] x, input [W - 1:0] y, input en, output [W - 1:0] z);
	reg [W - 1:0] r = FIRST + W;
	assign z = r;
	if (BOTH) begin : both
		wire [W - 1:0] s;
		ripple #(.W(W)) sum (.x(x), .y(y), .en(r[0]), .z(s));
		always @clk if (en) r <= s; else r <= {r, ^y};
	end else begin : one
		always @clk r <= en ? x : r ^ y;
	end
endmodule
module keep #(W = 2) (input [W - 1:0] x, input [W - 1:0] y, input en, output [W - 1:0] z);
	reg [W - 1:0] k [0:2];
	assign z = k[y];
	always @clk if (en) k[x] <= y + 1;
endmodule
module most #(W = 2) (input [W - 1:0] x, input [W - 1:0] y, input en, output reg [W - 1:0] z);
	always @* begin
		z = 0;
		case ({en, x < y})
			0: z = x;
			1: z = y;
			default: for (i = 0; i < W; i = i + 1) if (x[i] | y[W - 1 - i]) z = z + i + 1;
		endcase
	end
endmodule
`

// maker makes random texts in which nothing is wrong.
type maker struct {
	*rand.Rand
	ready []string // what may be read
	lines []string
}

func (m *maker) word(list ...string) string { return list[m.Intn(len(list))] }

func (m *maker) line(form string, values ...any) {
	m.lines = append(m.lines, fmt.Sprintf(form, values...))
}

func (m *maker) atom() string {
	if m.Intn(5) == 0 {
		return m.word("0", "1", "2", "3", "4'd9", "2'd2", "1'd1", "3'h7")
	}
	return m.word(m.ready...)
}

func (m *maker) expr(deep int) string {
	if deep == 0 || m.Intn(5) == 0 {
		return m.atom()
	}
	a, b := m.expr(deep-1), m.expr(deep-1)
	switch m.Intn(8) {
	case 0:
		return "(" + m.word("~", "!", "-", "&", "|", "^") + "(" + a + "))"
	case 1:
		return "(" + m.atom() + " ? " + a + " : " + b + ")"
	case 2:
		return "{2{i[0], " + m.word("j", "i[1]", "i[2]") + "}}"
	case 3:
		return "i[" + m.word("j", "k", "{k[0], j}") + "]"
	}
	return "(" + a + m.word(" + ", " - ", " & ", " | ", " ^ ", " << ", " >> ", " == ", " != ", " < ", " <= ", " > ", " && ", " || ") + b + ")"
}

// output makes the process or the use that sets an output, and gives its port.
func (m *maker) output(name string) string {
	width := 1 + m.Intn(3)
	port := fmt.Sprintf("[%d:0] %s", width-1, name)
	switch m.Intn(4) {
	case 0:
		m.line("always @* begin %s = %s; if (%s) %s = %s + %s; end", name, m.expr(2), m.expr(1), name, m.expr(1), name)
		return "output reg " + port
	case 1:
		m.line("always @* if (%s) %s = %s; else %s = %s;", m.expr(1), name, m.expr(2), name, m.expr(1))
		return "output reg " + port
	case 2:
		use := m.word("ripple #(.W(%d))", "hold #(.W(%d))", "hold #(.FIRST(3), .W(%d))", "hold #(.W(%d), .BOTH(1))", "keep #(.W(%d))", "most #(.W(%d))")
		m.line(use+" use_%s (.x(%s), .z(%s), .y(%s), .en(%s));", width, name, m.expr(1), name, m.expr(1), m.expr(1))
		return "output " + port
	}
	m.line("assign %s = %s;", name, m.expr(2))
	return "output " + port
}

// text has a module m with some outputs, and the inputs i, j, k of 3, 1 and 2 bits, in this order.
func (m *maker) text() string {
	m.lines, m.ready = nil, []string{"i", "j", "k", "k[1]", "i[2:1]"}
	states := m.Intn(3)
	for n := range states {
		m.line("reg [%d:0] s%d = %d;", m.Intn(3), n, m.Intn(9))
		m.ready = append(m.ready, fmt.Sprint("s", n))
	}
	ports := []string{"input [2:0] i"}
	for n := range 1 + m.Intn(4) {
		name := fmt.Sprint("o", n)
		ports = append(ports, m.output(name))
		m.ready = append(m.ready, name)
	}
	for n := range states {
		m.line("always @clk begin s%d <= %s; if (%s) s%d <= %s; end", n, m.expr(1), m.expr(1), n, m.expr(2))
	}
	ports = append(ports, "input j", "input [1:0] k")
	return leaves + "module m (" + strings.Join(ports, ", ") + ");\n" + strings.Join(m.lines, "\n") + "\nendmodule\n"
}

// trace has rows that may lack inputs, have too many, or words that are too wide.
func (m *maker) trace(cycles int) [][]uint64 {
	rows := make([][]uint64, cycles)
	for i := range rows {
		for range m.Intn(2) + m.Intn(2) + m.Intn(2) + m.Intn(2) {
			rows[i] = append(rows[i], m.Uint64()>>(62*m.Intn(2)))
		}
	}
	return rows
}

func (m *maker) order() []int {
	list := make([]int, m.Intn(9))
	for i := range list {
		list[i] = m.Intn(15) - 6
	}
	return list
}
