package word

import (
	"fmt"
	"math/rand"
	"strings"
	"testing"

	"gatewright/api"
	"gatewright/elab"
	"gatewright/parse"
)

// designOf makes the design of the module m of a text.
func designOf(t *testing.T, text string) api.Design {
	t.Helper()
	ms, err := parse.Text(text)
	if err != nil {
		_, at := api.Code(err)
		t.Fatalf("no text at %d: %s", at, text[:min(len(text), 2000)])
	}
	d, err := elab.Design(ms, "m")
	if err != nil {
		code, at := api.Code(err)
		t.Fatalf("no design, fault %d at %d: %s", code, at, text[:min(len(text), 2000)])
	}
	return d
}

// segment is bits of a net that one process sets.
type segment struct {
	net           string
	lo, width, of int
}

func (s segment) String() string {
	switch {
	case s.width == s.of:
		return s.net
	case s.width == 1:
		return fmt.Sprintf("%s[%d]", s.net, s.lo)
	}
	return fmt.Sprintf("%s[%d:%d]", s.net, s.lo+s.width-1, s.lo)
}

// maker makes random texts in which nothing is wrong.
type maker struct {
	*rand.Rand
	text   strings.Builder
	ready  []segment // what may be read
	sparse bool      // few conditions
	writes bool      // the process may write the memory
}

func (m *maker) words(all string) string {
	list := strings.Fields(all)
	return list[m.Intn(len(list))]
}

func (m *maker) width() int {
	switch m.Intn(4) {
	case 0:
		return 1
	case 1:
		return 1 + m.Intn(32)
	}
	return 2 + m.Intn(7)
}

// atom is a number, or something that may be read.
func (m *maker) atom() string {
	if len(m.ready) == 0 || m.Intn(6) == 0 {
		return m.words("0 1 2 3 5 255 4294967295 2'd1 4'd0 4'hf 8'd128 1'b0 1'b1")
	}
	s := m.ready[m.Intn(len(m.ready))]
	switch m.Intn(4) {
	case 0:
		at := s.lo + m.Intn(s.width)
		return fmt.Sprintf("%s[%d]", s.net, at)
	case 1:
		lo := s.lo + m.Intn(s.width)
		return fmt.Sprintf("%s[%d:%d]", s.net, lo+m.Intn(s.lo+s.width-lo), lo)
	}
	return s.String()
}

func (m *maker) expr(deep int) string {
	if deep <= 0 {
		return m.atom()
	}
	a, b := m.expr(deep-1), m.expr(deep-1-m.Intn(2))
	switch m.Intn(10) {
	case 0:
		return m.words("~ ! - & | ^") + "(" + a + ")"
	case 1, 2, 3:
		return "((" + a + ")" + m.words("+ - * & | ^ << >> == != < <= > >= && ||") + "(" + b + "))"
	case 4, 5:
		return "((" + m.atom() + ") ? (" + a + ") : (" + b + "))"
	case 6:
		return m.words("k[ c[ c[") + b + "+i0]"
	case 7:
		return fmt.Sprintf("{%d{b, i0}}", 1+m.Intn(5))
	case 8:
		return "{c[3:1], b, " + m.words("i0 c[7] 3'd5 k[b]") + "}"
	}
	return m.atom()
}

// scattered is some segments of those that a process may set, cut and in any order, in braces.
func (m *maker) scattered(own []segment) string {
	var pieces []string
	width := 0
	for range 1 + m.Intn(6) {
		s := own[m.Intn(len(own))]
		lo := m.Intn(s.width)
		s.lo, s.width = s.lo+lo, 1+m.Intn(s.width-lo)
		if width += s.width; width > 32 {
			break
		}
		pieces = append(pieces, s.String())
	}
	if len(pieces) == 0 {
		return own[0].String()
	}
	return "{" + strings.Join(pieces, ", ") + "}"
}

// stmt sets something, perhaps.
func (m *maker) stmt(own []segment, set string, deep int) string {
	if deep > 0 && (!m.sparse || m.Intn(3) == 0) {
		switch m.Intn(6) {
		case 0, 1:
			return "if (" + m.expr(m.Intn(2)) + ") begin " + m.stmts(own, set, deep-1) + "end "
		case 2, 3:
			return "if (" + m.expr(m.Intn(2)) + ") begin " + m.stmts(own, set, deep-1) + "end else begin " + m.stmts(own, set, deep-1) + "end "
		case 4:
			return "case (" + m.expr(1) + ") 0, " + m.atom() + ": " + m.stmt(own, set, deep-1) + " 2: begin " + m.stmts(own, set, deep-1) + "end default: " + m.stmt(own, set, deep-1) + " endcase "
		}
	}
	s := own[m.Intn(len(own))]
	switch n := m.Intn(8); {
	case n == 0 && s.width == s.of && s.of > 1:
		return s.net + "[" + m.expr(1) + "+i0] " + set + m.expr(1) + "; "
	case n == 1 && s.width == s.of && s.of > 1:
		return "{" + s.net + "[c], " + m.scattered(own) + ", " + s.net + "[i0]} " + set + m.expr(1) + "; "
	case n < 4:
		return m.scattered(own) + set + m.expr(2) + "; "
	case n == 4 && m.writes && set == "<= ":
		return "k[" + m.expr(1) + "] <= " + m.expr(1) + "; "
	}
	return s.String() + set + m.expr(2) + "; "
}

func (m *maker) stmts(own []segment, set string, deep int) string {
	text := ""
	for range m.Intn(4) {
		text += m.stmt(own, set, deep)
	}
	return text
}

// surely sets all that a process owns, on each way.
func (m *maker) surely(own []segment, deep int) string {
	text := ""
	for len(own) > 0 {
		n, width := 1, own[0].width
		for n < len(own) && width+own[n].width <= 32 && m.Intn(2) == 0 {
			width += own[n].width
			n++
		}
		part := own[:n]
		own = own[n:]
		switch {
		case deep > 0 && m.Intn(3) == 0:
			text += "if (" + m.expr(1) + ") begin " + m.surely(part, deep-1) + "end else begin " + m.surely(part, deep-1) + "end "
		default:
			var pieces []string
			for _, s := range part {
				pieces = append(pieces, s.String())
			}
			m.Shuffle(n, func(i, k int) { pieces[i], pieces[k] = pieces[k], pieces[i] })
			text += "{" + strings.Join(pieces, ", ") + "} = " + m.expr(2) + "; "
		}
	}
	return text
}

// declare makes nets, and cuts them into segments.
func (m *maker) declare(kind, name string, count int) [][]segment {
	var nets [][]segment
	for i := range count {
		width := m.width()
		first := ""
		if kind == "reg" && m.Intn(2) == 0 {
			first = fmt.Sprintf(" = %d", m.Intn(300))
		}
		net := fmt.Sprint(name, i)
		fmt.Fprintf(&m.text, "%s [%d:0] %s%s; ", kind, width-1, net, first)
		var cuts []segment
		for lo := 0; lo < width; {
			w := width - lo
			if m.Intn(3) == 0 {
				w = 1 + m.Intn(w)
			}
			cuts = append(cuts, segment{net, lo, w, width})
			lo += w
		}
		nets = append(nets, cuts)
	}
	return nets
}

// deal gives each of so many processes some of the segments.
func (m *maker) deal(nets [][]segment, processes int) [][]segment {
	own := make([][]segment, processes)
	for _, cuts := range nets {
		for _, s := range cuts {
			p := m.Intn(processes)
			own[p] = append(own[p], s)
		}
	}
	return own
}

// make makes a text: wires and regs beside the clock, each reading those ahead; regs at the clock, of which those that are set at once are read by their own process alone.
func (m *maker) make() string {
	m.text.Reset()
	m.sparse = m.Intn(2) == 0
	inputs := []segment{{"a", 0, 4, 4}, {"b", 0, 1, 1}, {"c", 0, 8, 8}, {"i0", 0, 2, 2}}
	m.text.WriteString("reg [4:0] k [0:5];\n")
	wires, regs := m.declare("wire", "w", m.Intn(5)), m.declare("reg", "r", m.Intn(6))
	state, temps := m.declare("reg", "s", m.Intn(6)), m.declare("reg", "t", m.Intn(3))
	m.ready = append(m.ready[:0], inputs...)
	for _, cuts := range state {
		m.ready = append(m.ready, cuts...)
		m.ready = append(m.ready, segment{cuts[0].net, 0, cuts[0].of, cuts[0].of})
	}
	var lines []string
	byWire, byReg := m.deal(wires, 3), m.deal(regs, 3)
	for i := range 3 {
		if own := byWire[i]; len(own) > 0 {
			lines = append(lines, m.assigns(own))
			m.ready = append(m.ready, own...)
		}
		if own := byReg[i]; len(own) > 0 {
			text := "always @* begin " + m.surely(own, 2)
			m.ready = append(m.ready, own...)
			text += m.stmts(own, "= ", 3) + "end"
			lines = append(lines, text)
		}
	}
	later, once := m.deal(state, 3), m.deal(temps, 3)
	for i := range 3 {
		all := len(m.ready)
		m.writes = i == 0
		text := "always @clk begin "
		for range 3 {
			if len(once[i]) > 0 {
				m.ready = append(m.ready[:all:all], once[i]...)
				text += m.stmts(once[i], "= ", 2)
			}
			if len(later[i]) > 0 {
				text += m.stmts(later[i], "<= ", 3)
			}
		}
		m.ready = m.ready[:all]
		lines = append(lines, text+"end")
	}
	m.Shuffle(len(lines), func(i, k int) { lines[i], lines[k] = lines[k], lines[i] })
	m.text.WriteString("\n" + strings.Join(lines, "\n"))
	return m.whole([][][]segment{wires, regs, state})
}

// assigns sets segments of wires.
func (m *maker) assigns(own []segment) string {
	text := ""
	for _, s := range own {
		text += "assign " + s.String() + " = " + m.expr(2) + "; "
	}
	return text
}

// whole puts a head before what has been made, with an output for each net, and a word of the memory.
func (m *maker) whole(all [][][]segment) string {
	head := "module m (input [3:0] a, input b, output [4:0] mem, input [7:0] c, input [1:0] i0"
	tail := "\nassign mem = k[a[2:0]];"
	for _, nets := range all {
		for _, cuts := range nets {
			head += fmt.Sprintf(", output [%d:0] o_%s", cuts[0].of-1, cuts[0].net)
			tail += fmt.Sprintf(" assign o_%s = %s;", cuts[0].net, cuts[0].net)
		}
	}
	return head + ");\n" + m.text.String() + tail + "\nendmodule"
}

func (m *maker) trace() [][]uint64 {
	var all [][]uint64
	for range 1 + m.Intn(12) {
		var row []uint64
		for range m.Intn(6) {
			row = append(row, m.Uint64()>>m.Intn(64))
		}
		all = append(all, row)
	}
	return all
}

func (m *maker) order() []int {
	var all []int
	for range m.Intn(9) {
		all = append(all, m.Intn(15)-6)
	}
	return all
}
