package word

import (
	"fmt"
	"math/rand"
	"strings"
	"testing"
)

// scatter makes texts that set scattered bits, 32 at a time, again and again.
type scatter struct {
	*rand.Rand
	nets, width int
	each        int  // sets under each condition
	fresh       int  // so many of ten values are words of a memory
	reads       int  // so many of ten sets have a read behind them
	later       bool // at the clock
	size        int  // about so many nodes of expressions
}

func (s *scatter) name(i int) string {
	return string(rune('A'+i%26)) + strings.Repeat("x", i/26)
}

// bits are 32 of all bits of the nets, which in each turn of a loop are other ones.
func (s *scatter) bits() string {
	var list []string
	for range 32 {
		bit := s.name(s.Intn(s.nets))
		if s.width > 1 {
			bit += fmt.Sprintf("[(i*%d+%d)&%d]", 2*s.Intn(16)+1, s.Intn(32), s.width-1)
		}
		list = append(list, bit)
	}
	return "{" + strings.Join(list, ",") + "}"
}

// group is sets under one condition, and reads behind them; it tells the nodes of its expressions, too.
func (s *scatter) group() (string, int) {
	text, size := fmt.Sprintf("if (c%d) begin ", s.Intn(32)), 1
	set := " = "
	if s.later {
		set = " <= "
	}
	for range s.each {
		value := s.words("v w")
		size++
		if s.Intn(10) < s.fresh {
			value = fmt.Sprintf("k%d[(i+%d)&255]", s.Intn(6), s.Intn(256))
			size++
		}
		text += s.bits() + set + value + ";"
	}
	text += "end "
	for range s.each {
		if s.Intn(10) < s.reads {
			text += "sum" + set + "sum ^ " + s.name(s.Intn(s.nets)) + ";"
			size += 4
		}
	}
	return text, size
}

func (s *scatter) words(all string) string {
	list := strings.Fields(all)
	return list[s.Intn(len(list))]
}

func (s *scatter) text() string {
	var b strings.Builder
	b.WriteString("module m (input [31:0] c, input [7:0] a, input [31:0] v, input [31:0] w, output [31:0] q, output [31:0] p); reg [31:0] sum; assign p = sum;")
	b.WriteString(repeat(6, func(i int) string {
		return fmt.Sprintf("reg [31:0] k%d [0:255]; always @clk k%d[a] <= v + %d;", i, i, i)
	}))
	b.WriteString(repeat(32, func(i int) string { return fmt.Sprintf("wire c%d = c[%d];", i, i) }))
	b.WriteString(repeat(s.nets, func(i int) string { return fmt.Sprintf("reg [%d:0] %s;", s.width-1, s.name(i)) }))
	b.WriteString("assign q = 0" + repeat(s.nets, func(i int) string { return " ^ " + s.name(i) }) + ";")
	size := 100 + 3*s.nets
	if s.later {
		b.WriteString("always @clk begin ")
	} else {
		b.WriteString("always @* begin sum = c;" + repeat(s.nets, func(i int) string { return fmt.Sprintf("%s=%d;", s.name(i), i*77) }))
		size += s.nets
	}
	turn, sizeOfTurn := "", 0
	for sizeOfTurn < 60 && len(turn) < 40000 && (sizeOfTurn == 0 || sizeOfTurn < (s.size-size)/3) {
		group, n := s.group()
		turn, sizeOfTurn = turn+group, sizeOfTurn+n
	}
	fmt.Fprintf(&b, "for (i = 0; i < %d; i = i + 1) begin %s end end endmodule", max(1, min(256, (s.size-size)/sizeOfTurn)), turn)
	return b.String()
}

// TestScattered: as large as may be, where FBig must not be told.
func TestScattered(t *testing.T) {
	for i, s := range []scatter{
		{nets: 33, width: 1, each: 1, later: true},
		{nets: 60, width: 1, each: 8, later: true},
		{nets: 120, width: 1, each: 4, reads: 5},
		{nets: 60, width: 4, each: 4, fresh: 10, later: true},
		{nets: 33, width: 4, each: 2, fresh: 10},
		{nets: 150, width: 4, each: 8, fresh: 5, reads: 2},
		{nets: 10, width: 32, each: 4, later: true},
		{nets: 20, width: 32, each: 1, later: true},
		{nets: 20, width: 32, each: 8, later: true},
		{nets: 20, width: 32, each: 8},
		{nets: 40, width: 32, each: 16, reads: 1},
		{nets: 60, width: 32, each: 4, reads: 10},
		{nets: 60, width: 32, each: 8, fresh: 3, later: true},
	} {
		s.Rand, s.size = rand.New(rand.NewSource(int64(i))), mostSure-100
		mustFit(t, fmt.Sprintf("%d: %d nets of %d bits", i, s.nets, s.width), s.text())
	}
	// Outputs of which each bit comes of another word.
	mustFit(t, "outputs", "module m (input [7:0] a, input [31:0] v"+
		repeat(1440, func(i int) string { return fmt.Sprintf(", output [31:0] o%d", i) })+");"+
		repeat(6, func(i int) string { return fmt.Sprintf("reg [31:0] k%d [0:255]; always @clk k%d[a] <= v;", i, i) })+
		repeat(45, func(g int) string {
			return fmt.Sprintf("for (i = 0; i < 32; i = i + 1) begin : g%d assign {%s} = k%d[i + %d]; end ", g, list32("o", 32*g, "[i]"), g/8, g%8*32)
		})+"endmodule")
}

// TestScatteredRandom: small ones, which must show the same.
func TestScatteredRandom(t *testing.T) {
	r := rand.New(rand.NewSource(19))
	for range 150 {
		s := scatter{Rand: r, nets: 1 + r.Intn(40), width: 1 << r.Intn(6), each: 1 + r.Intn(6), fresh: r.Intn(4), reads: r.Intn(4), later: r.Intn(2) == 0, size: 300 + r.Intn(300)}
		text := s.text()
		d := designOf(t, text)
		shows(t, text, d, traceOf(r, &d, 12))
	}
}
