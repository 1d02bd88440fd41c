package word

import (
	"fmt"
	"math/rand"
	"reflect"
	"strings"
	"testing"

	"gatewright/api"
)

// mover makes texts in which bits of registers go anywhere among themselves.
type mover struct {
	*rand.Rand
	regs, uses int // registers of a module, uses of it
	words      int // so many of a hundred values are words of a memory
	nots       int // so many are inverted
	conditions int // so many ifs, each with as many sets; 0: none
	width      int
}

func (m *mover) name(i int) string {
	if i >= 52 {
		return m.name(i/52) + m.name(i%52)
	}
	return string("abcdefghijklmnopqrstuvwxyzABCDEFGHIJKLMNOPQRSTUVWXYZ"[i])
}

// ring tells where each bit goes: one way through all of them.
func (m *mover) ring() []int {
	way := m.Perm(m.regs * m.width)
	to := make([]int, len(way))
	for i, from := range way {
		to[from] = way[(i+1)%len(way)]
	}
	return to
}

func (m *mover) sets() []string {
	to := m.ring()
	var all []string
	for i := range m.regs {
		var list []string
		for k := range m.width {
			p := to[i*m.width+m.width-1-k]
			list = append(list, fmt.Sprintf("%s[%d]", m.name(p/m.width), p%m.width))
		}
		value := m.name(i)
		switch n := m.Intn(100); {
		case n < m.words:
			value = "_k[" + value + "]"
		case n < m.words+m.nots:
			value = "~" + value
		}
		all = append(all, "{"+strings.Join(list, ",")+"}<="+value+";")
	}
	return all
}

func (m *mover) text() string {
	var b strings.Builder
	top := m.width - 1
	fmt.Fprintf(&b, "module t #(_i=1)(input [%d:0] _e, output _z);", top)
	if m.words > 0 {
		fmt.Fprintf(&b, "reg [%d:0] _k[0:255]; always @clk _k[_e[%d:0]]<=_e;", top, min(7, top))
	}
	for i := range m.regs {
		fmt.Fprintf(&b, "reg [%d:0] %s=_i*%d;", top, m.name(i), 2*i+1)
	}
	b.WriteString("assign _z=a[0];always @clk begin ")
	sets := m.sets()
	for i, s := range sets {
		if m.conditions > 0 && i*m.conditions/len(sets) != (i-1)*m.conditions/len(sets) || m.conditions > 0 && i == 0 {
			if i > 0 {
				b.WriteString("end ")
			}
			fmt.Fprintf(&b, "if(_e[%d])begin ", i*m.conditions/len(sets)%m.width)
		}
		b.WriteString(s)
	}
	if m.conditions > 0 {
		b.WriteString("end ")
	}
	b.WriteString("end endmodule module m(input [31:0]e")
	outs := (m.uses + 31) / 32
	for i := range outs {
		fmt.Fprintf(&b, ",output [31:0]p%d", i)
	}
	b.WriteString(");")
	for i := range 32 * outs {
		if i < m.uses {
			fmt.Fprintf(&b, "t #(._i(%d))u%d(._e(e),._z(p%d[%d]));", i*i*77777+1, i, i/32, i%32)
		} else {
			fmt.Fprintf(&b, "assign p%d[%d]=0;", i/32, i%32)
		}
	}
	b.WriteString("endmodule")
	return b.String()
}

// TestMoved: as large as may be, where FBig must not be told.
func TestMoved(t *testing.T) {
	for i, m := range []mover{
		{regs: 16, uses: 110},
		{regs: 50, uses: 37},
		{regs: 50, uses: 37, conditions: 1},
		{regs: 50, uses: 37, conditions: 4},
		{regs: 50, uses: 36, conditions: 12},
		{regs: 50, uses: 37, words: 20},
		{regs: 50, uses: 36, words: 45},
		{regs: 50, uses: 36, nots: 45},
		{regs: 50, uses: 35, words: 40, conditions: 1},
		{regs: 50, uses: 34, words: 20, nots: 20, conditions: 4},
		{regs: 50, uses: 34, words: 10, conditions: 10},
		{regs: 121, uses: 15, words: 40, conditions: 3},
		{regs: 103, uses: 17, words: 45, conditions: 4},
		{regs: 120, uses: 15, words: 25, nots: 20, conditions: 3},
	} {
		m.Rand, m.width = rand.New(rand.NewSource(int64(i))), 32
		mustFit(t, fmt.Sprint(i), m.text())
	}
}

// TestDoubled: netlists with doubles show the same.
func TestDoubled(t *testing.T) {
	r := rand.New(rand.NewSource(21))
	more := 0
	for i := range 150 {
		m := mover{Rand: r, regs: 1 + r.Intn(6), uses: 1 + r.Intn(3), words: r.Intn(3) * 15, nots: r.Intn(3) * 15, conditions: r.Intn(4), width: 8 << r.Intn(3)}
		text := m.text()
		d := designOf(t, text)
		trace := traceOf(r, &d, 12)
		want := Run(shows(t, text, d, trace), trace)
		other := regrouped(&d, false)
		for k, plain := range []api.Netlist{lowered(&d, false), lowered(&d, true), lowered(&other, false), lowered(&other, true)} {
			if got := Run(plain, trace); !Valid(plain) || !reflect.DeepEqual(got, want) {
				t.Fatalf("%d, %d: %v, want %v: %s", i, k, got, want, text)
			}
			n := doubled(&plain)
			if !Valid(n) {
				t.Fatalf("%d: not valid: %s", i, text)
			}
			if got := Run(n, trace); !reflect.DeepEqual(got, want) {
				t.Fatalf("%d: %v, want %v: %s", i, got, want, text)
			}
			if len(n.Regs) > len(plain.Regs) {
				more++
			}
		}
	}
	if more < 100 {
		t.Errorf("only %d netlists have doubles", more)
	}
}

// bitwise makes a netlist of operations that work bit by bit, registers, and words of scattered bits.
func bitwise(r *rand.Rand) api.Netlist {
	const width = 24
	n := api.Netlist{Inputs: []int{width}, Nodes: []api.Node{{Kind: api.NIn, Width: width}, {Kind: api.XSlice, Width: 1, Num: 3, Args: []int{0}}}}
	add := func(kind int, num uint64, args ...int) int {
		n.Nodes = append(n.Nodes, api.Node{Kind: kind, Width: width, Num: num, Args: args})
		return len(n.Nodes) - 1
	}
	words := []int{0, add(api.XNum, r.Uint64()&mask(width))}
	for i := range 3 {
		words = append(words, add(api.NReg, uint64(i)))
	}
	any := func() int { return words[r.Intn(len(words))] }
	scattered := func() int {
		var args []int
		for range width {
			n.Nodes = append(n.Nodes, api.Node{Kind: api.XSlice, Width: 1, Num: uint64(r.Intn(width)), Args: []int{any()}})
			args = append(args, len(n.Nodes)-1)
		}
		return add(api.XCat, 0, args...)
	}
	for range 2 + r.Intn(6) {
		switch r.Intn(7) {
		case 0:
			words = append(words, add(api.XNot, 0, any()))
		case 1:
			words = append(words, add(api.XIf, 0, 1, any(), any()))
		case 2, 3:
			words = append(words, scattered())
		default:
			words = append(words, add(api.XAnd+r.Intn(3), 0, any(), any()))
		}
	}
	for range 3 {
		n.Regs = append(n.Regs, api.Reg{Width: width, Init: r.Uint64() & mask(width), Next: any()})
	}
	n.Outputs = []int{any(), scattered(), scattered()}
	return n
}

// TestDoubledBitwise: whatever the bits of registers are worked out of.
func TestDoubledBitwise(t *testing.T) {
	r := rand.New(rand.NewSource(22))
	more := 0
	for i := range 5000 {
		all := bitwise(r)
		n := needed(&all)
		trace := [][]uint64{{r.Uint64()}, {r.Uint64()}, {r.Uint64()}, {r.Uint64()}, {r.Uint64()}}
		other := doubled(&n)
		if !Valid(n) || !Valid(other) {
			t.Fatalf("%d: valid: %v, %v", i, Valid(n), Valid(other))
		}
		if got, want := Run(other, trace), Run(n, trace); !reflect.DeepEqual(got, want) {
			t.Fatalf("%d: %v, want %v: %+v", i, got, want, n)
		}
		if len(other.Regs) > len(n.Regs) {
			more++
		}
	}
	if more < 1000 {
		t.Errorf("only %d netlists have doubles", more)
	}
}

// TestRegrouped: bits that stand elsewhere are read there, whatever else happens to their nets.
func TestRegrouped(t *testing.T) {
	r := rand.New(rand.NewSource(23))
	for _, c := range []struct {
		text string
		more int // so many new nets
	}{
		{"reg [7:0] y = 9; always @clk y <= a; assign q = y + 1;", 1},
		{"reg [7:0] y = 9; always @clk y <= a; assign q = y[b];", 0},
		{"reg [7:0] y = 9; always @clk y[b] <= a; assign q = y;", 0},
		{"reg [7:0] y = 9; always @clk y[6:0] <= a; always @* y[7] = ~y[0]; assign q = y;", 0},
		{"reg [7:0] y = 9; always @clk begin y[6:0] <= a; if (b[0]) y[6] <= b[1]; end assign q = y;", 1},
		{"reg [7:0] y = 9; reg [7:0] z = 77; always @clk if (b[0]) {y[0],z[3:0],y[7:4],z[7:6]} <= a * b; assign q = {y[3:0],z[5:2]};", 1},
		{"reg [7:0] y = 9; reg [7:0] z; reg [7:0] k [0:3]; always @clk {y[0],k[b],z[b],y[7:2]} <= {a,b} * b; assign q = y ^ z ^ k[a];", 1},
		{"reg [7:0] y; reg [7:0] z = 3; always @clk begin z <= {y[3:0],y[7:4]}; y = a + b; end assign q = z;", 1},
		{"reg [7:0] y; reg [7:0] z = 3; reg [7:0] x; always @clk if (a < b) begin y <= z; z <= {y,y} >> 3; end else x <= y; assign q = x;", 3},
	} {
		text := "module m (input [7:0] a, input [7:0] b, output [7:0] q); " + c.text + " endmodule"
		d := designOf(t, text)
		trace := traceOf(r, &d, 40)
		want := Run(shows(t, text, d, trace), trace)
		other := regrouped(&d, true)
		if more := len(other.Nets) - len(d.Nets); more != c.more {
			t.Errorf("%s: %d new nets, want %d", text, more, c.more)
		}
		for _, isFrugal := range []bool{false, true} {
			n := lowered(&other, isFrugal)
			if got := Run(n, trace); !Valid(n) || !reflect.DeepEqual(got, want) {
				t.Errorf("%s: %v, want %v", text, got, want)
			}
		}
	}
}
