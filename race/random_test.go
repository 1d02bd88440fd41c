package race

import (
	"fmt"
	"math/rand"
	"slices"
	"strings"
	"testing"

	"gatewright/api"
	"gatewright/elab"
	"gatewright/parse"
	"gatewright/sim"
)

func equalRows(a, b [][]uint64) bool {
	return slices.EqualFunc(a, b, func(x, y []uint64) bool { return slices.Equal(x, y) })
}

// maker makes random texts, of which many have nothing wrong.
type maker struct {
	*rand.Rand
	ready []string // what has been set by processes ahead
	wild  int      // one of so many choices is made freely
}

func (m *maker) pick(all ...string) string {
	return all[m.Intn(len(all))]
}

func (m *maker) words(all string) string {
	return m.pick(strings.Fields(all)...)
}

// free asks whether a choice is made without a thought for what is wrong.
func (m *maker) free() bool {
	return m.Intn(m.wild) == 0
}

func (m *maker) read() string {
	switch {
	case m.free():
		return m.words("o p w x y z v r t w[1] w[2:0] x[0] y[2] y[3:1] z[1:0] z[3] v[1] r[0] {x,w} z[a] y[b] v[a] s[z] s[a]")
	case m.Intn(2) == 0 || len(m.ready) == 0:
		return m.words("a b a[1] a[2:0] 1 3 6 s[a] s[b] a[b]")
	}
	return m.pick(m.ready...)
}

func (m *maker) expr(deep int) string {
	if deep <= 0 {
		return m.read()
	}
	a, b := m.expr(deep-1), m.expr(deep-1-m.Intn(2))
	switch m.Intn(6) {
	case 0:
		return m.words("~ ! - & | ^") + "(" + a + ")"
	case 1, 2, 3:
		return "((" + a + ")" + m.words("+ - * & | ^ << >> == < && ||") + "(" + b + "))"
	case 4:
		return "((" + m.read() + ") ? (" + a + ") : (" + b + "))"
	}
	return m.read()
}

// stmts are statements that set pieces, most of the time on each way.
func (m *maker) stmts(pieces []string, deep int, set string) string {
	var b strings.Builder
	for _, p := range pieces {
		if set == "= or <=" {
			set = m.pick("=", "<=")
		}
		if m.free() {
			p = m.words("p z z[1:0] z[2] z[a] {r,t} v v[b] v[1:0] r t")
		}
		switch n := m.Intn(6); {
		case n == 0 && deep > 0:
			fmt.Fprintf(&b, "if (%s) begin %s end else begin %s end ", m.expr(1), m.stmts([]string{p}, deep-1, set), m.stmts([]string{p}, deep-1, set))
		case n == 1 && deep > 0:
			fmt.Fprintf(&b, "%s %s %s; if (%s) begin %s end ", p, set, m.expr(1), m.expr(1), m.stmts([]string{p}, deep-1, set))
		case n == 2 && deep > 0:
			fmt.Fprintf(&b, "case (%s) 0, 2: begin %s end 1: %s %s %s; default: begin %s end endcase ", m.expr(1), m.stmts([]string{p}, deep-1, set), p, set, m.expr(1), m.stmts([]string{p}, deep-1, set))
		case n == 3 && m.free():
			fmt.Fprintf(&b, "if (%s) begin %s end ", m.expr(1), m.stmts([]string{p}, deep-1, set))
		default:
			fmt.Fprintf(&b, "%s %s %s; ", p, set, m.expr(2))
		}
		if m.Intn(3) == 0 && set == "=" {
			m.ready = append(m.ready, p)
		}
	}
	return b.String()
}

// combine makes a process that is not at the clock.
func (m *maker) combine(pieces []string, isWire bool) string {
	if isWire {
		return "assign {" + strings.Join(pieces, ", ") + "} = " + m.expr(2) + ";\n"
	}
	return "always @* begin " + m.stmts(pieces, 2, "=") + "end\n"
}

func (m *maker) clocked(pieces []string, all *strings.Builder) {
	mode := m.pick("<=", "<=", "<=", "<=", "=", "= or <=")
	ready := slices.Clone(m.ready)
	text := "always @clk begin " + m.stmts(pieces, 2, mode)
	if m.Intn(4) == 0 {
		text += "s[" + m.expr(1) + "] <= " + m.expr(1) + "; "
	}
	all.WriteString(text + "end\n")
	m.ready = ready
	if mode == "<=" {
		m.ready = append(m.ready, pieces...)
	}
}

func (m *maker) text() string {
	m.ready = nil
	wires := []string{"o", "w[0]", "w[2:1]", "x", "y[3]", "y[2]", "y[1]", "y[0]"}
	regs := []string{"p", "z[3]", "z[2]", "z[1:0]", "v[1]", "v[0]", "r", "t"}
	m.Shuffle(len(wires), func(i, k int) { wires[i], wires[k] = wires[k], wires[i] })
	m.Shuffle(len(regs), func(i, k int) { regs[i], regs[k] = regs[k], regs[i] })
	var b strings.Builder
	for range 2 + m.Intn(6) {
		from := &wires
		if m.Intn(2) == 0 {
			from = &regs
		}
		n := min(1+m.Intn(2), len(*from))
		if n == 0 {
			continue
		}
		pieces := (*from)[:n:n]
		*from = (*from)[n:]
		if m.free() {
			*from = append(*from, pieces...)
		}
		if from == &regs && m.Intn(2) == 0 {
			m.clocked(pieces, &b)
		} else {
			b.WriteString(m.combine(pieces, from == &wires))
			m.ready = append(m.ready, pieces...)
		}
	}
	lines := strings.SplitAfter(b.String(), "\n")
	m.Shuffle(len(lines), func(i, k int) { lines[i], lines[k] = lines[k], lines[i] })
	return "module m (input [3:0] a, input b, output [3:0] o, output reg [2:0] p);\n" +
		"wire [2:0] w; wire x; wire [3:0] y; reg [3:0] z; reg [1:0] v = 2; reg [1:0] r = 1; reg t; reg [3:0] s [0:4];\n" + strings.Join(lines, "") + "endmodule"
}

func (m *maker) trace() [][]uint64 {
	var all [][]uint64
	for range 1 + m.Intn(6) {
		all = append(all, []uint64{uint64(m.Intn(16)), uint64(m.Intn(2))})
	}
	return all
}

func (m *maker) order() []int {
	var all []int
	for range m.Intn(9) {
		all = append(all, m.Intn(15)-6)
	}
	return all
}

// Each design is told as the document says it, and runs the same in every order if nothing is told.
func TestRandom(t *testing.T) {
	m := &maker{Rand: rand.New(rand.NewSource(5))}
	codes := map[int]int{}
	parted := 0
	for turn := range 12000 {
		m.wild = []int{3, 10, 20, 40, 80}[turn%5]
		text := m.text()
		ms, err := parse.Text(text)
		if err != nil {
			t.Fatal(err, text)
		}
		d, err := elab.Design(ms, "m")
		if code, _ := api.Code(err); code == api.FRange || code == api.FWidth {
			continue
		} else if code != 0 {
			t.Fatal(code, text)
		}
		code, at := told(&d)
		codes[code]++
		if c, place := api.Code(Check(d)); c != code || place != at {
			t.Fatalf("fault %d at %d, want %d at %d: %s", c, place, code, at, text)
		}
		if turn%3 > 0 && code != 0 {
			continue
		}
		same := m.sameInAllOrders(&d)
		if code != 0 && !same {
			parted++
		}
		if code == 0 && !same {
			t.Fatalf("hangs on the order, or does not come to rest: %s", text)
		}
	}
	for _, code := range []int{0, api.FDrive, api.FRace, api.FLatch, api.FLoop} {
		if codes[code] < 300 {
			t.Errorf("only %d texts with the code %d", codes[code], code)
		}
	}
	if parted < 100 {
		t.Errorf("only %d texts show their fault", parted)
	}
}

func (m *maker) sameInAllOrders(d *api.Design) bool {
	trace := m.trace()
	first, err := sim.Run(*d, trace, nil)
	same := err == nil
	for range 4 {
		rows, err := sim.Run(*d, trace, m.order())
		same = same && err == nil && equalRows(rows, first)
	}
	return same
}
