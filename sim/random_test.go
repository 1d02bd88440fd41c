package sim

import (
	"fmt"
	"math/rand"
	"reflect"
	"strings"
	"testing"

	"gatewright/api"
	"gatewright/elab"
	"gatewright/parse"
)

// maker makes random texts.
type maker struct {
	*rand.Rand
}

func (m maker) pick(all string) string {
	words := strings.Fields(all)
	return words[m.Intn(len(words))]
}

func (m maker) expr(deep int) string {
	if deep <= 0 {
		return m.pick("a b c w x y p r t z 0 1 3 7 255 2'd3 5'h1a c[5:2] w[0] y[7:6] z[1] r[0] b a[3] a[1:0]")
	}
	a, b, c := m.expr(deep-1), m.expr(deep-1-m.Intn(2)), m.expr(deep-2)
	switch m.Intn(8) {
	case 0:
		return m.pick("~ ! - & | ^") + "(" + a + ")"
	case 1, 2, 3:
		return "((" + a + ")" + m.pick("+ - * & | ^ << >> == != < <= > >= && ||") + "(" + b + "))"
	case 4:
		return "((" + c + ") ? (" + a + ") : (" + b + "))"
	case 5:
		return m.pick("s[ s[ c[ y[ z[") + a + "]"
	case 6:
		return "{" + m.pick("a b 2'd2 w r z[5:2]") + ", " + m.pick("{2{b}} x t s[b] y") + "}"
	}
	return m.expr(0)
}

// wires and regs are what is set by assign, and in processes.
const (
	wires = "w x y y w[1] w[2:0] y[3:2] {x,y[7]} o1 o1[3:1] {o1[0],w}"
	regs  = "r t z q p r[0] z[4:1] z[3] {t,r} {q,t} {z[2:1],z[5]}"
)

func (m maker) target(clocked, later bool) string {
	switch n := m.Intn(8); {
	case n == 0 && later:
		return "s[" + m.expr(1) + "]"
	case n == 1:
		return m.pick("z q r") + "[" + m.expr(1) + "]"
	case n == 2:
		return "{" + m.pick("z q r") + "[" + m.expr(1) + "]," + m.pick("t q r z") + "}"
	}
	return m.pick(regs)
}

func (m maker) stmt(deep int, clocked bool) string {
	if deep > 0 {
		switch m.Intn(5) {
		case 0:
			return "begin " + m.stmt(deep-1, clocked) + " " + m.stmt(deep-1, clocked) + " end"
		case 1:
			return "if (" + m.expr(1) + ") begin " + m.stmt(deep-1, clocked) + " end else " + m.stmt(deep-1, clocked)
		case 2:
			return "if (" + m.expr(1) + ") begin " + m.stmt(deep-1, clocked) + " end"
		case 3:
			return "case (" + m.expr(1) + ") " + m.expr(0) + ": " + m.stmt(deep-1, clocked) + " default: " + m.stmt(0, clocked) + " endcase"
		}
	}
	if clocked && m.Intn(2) == 0 {
		return m.target(clocked, true) + " <= " + m.expr(2) + ";"
	}
	return m.target(clocked, false) + " = " + m.expr(2) + ";"
}

func (m maker) text() string {
	text := "module m (input [3:0] a, input b, input [7:0] c, output [3:0] o1, output reg [4:0] q, output [7:0] o2, output [3:0] o3, output reg p);\n" +
		"wire [2:0] w; wire x; wire [7:0] y; reg [1:0] r = 2; reg t; reg [5:0] z = 33; reg [3:0] s [0:4];\nassign o2 = y ^ z;\nassign o3 = s[r];\n"
	for range 1 + m.Intn(6) {
		switch n := m.Intn(4); {
		case n < 2:
			text += "assign " + m.pick(wires) + " = " + m.expr(2) + ";\n"
		case n == 2:
			text += "always @* " + m.stmt(2, false) + "\n"
		default:
			text += "always @clk " + m.stmt(3, true) + "\n"
		}
	}
	return text + "endmodule"
}

func (m maker) trace() [][]uint64 {
	var all [][]uint64
	for range m.Intn(7) {
		var row []uint64
		for range m.Intn(5) {
			row = append(row, m.Uint64()>>m.Intn(64))
		}
		all = append(all, row)
	}
	return all
}

func (m maker) order() []int {
	var all []int
	for range m.Intn(9) {
		all = append(all, m.Intn(15)-6)
	}
	return all
}

func TestRandom(t *testing.T) {
	m := maker{rand.New(rand.NewSource(4))}
	looped, parted, most := 0, 0, 0
	for range 8000 {
		text := m.text()
		ms, err := parse.Text(text)
		if err != nil {
			t.Fatal(err, text)
		}
		d, err := elab.Design(ms, "m")
		if code, _ := api.Code(err); code == api.FRange {
			continue // an index that happens to be known ahead
		} else if code != 0 {
			t.Fatal(err, text)
		}
		trace := m.trace()
		var before [][]uint64
		for turn := range 4 {
			order := m.order()
			r := tellerOf(d, order)
			want, cycle := r.tell(trace)
			got, err := Run(d, trace, order)
			code, at := api.Code(err)
			if cycle >= 0 {
				looped++
				if code != api.FLoop || at != cycle || got != nil {
					t.Fatalf("%v, fault %d at %d, want FLoop at %d: order %v, trace %v\n%s", got, code, at, cycle, order, trace, text)
				}
				continue
			}
			if code != 0 || len(got) != len(want) || len(got) > 0 && !reflect.DeepEqual(got, want) {
				t.Fatalf("%v, fault %d at %d, want %v: order %v, trace %v\n%s", got, code, at, want, order, trace, text)
			}
			if turn > 0 && before != nil && !reflect.DeepEqual(before, want) {
				parted++
			}
			before = want
			most = max(most, r.ran)
		}
	}
	if looped < 400 || parted < 800 || most < 60 {
		t.Errorf("the texts show too little: %d rings, %d that hang on the order, %d runs", looped, parted, most)
	}
}

// restless makes a text whose processes set a bit there and back, and read some bits of each other's nets.
func (m maker) restless() string {
	bits := []string{"x[0]", "x[1]", "x[2]", "y[0]", "y[1]", "y[2]", "z[0]", "z[1]"}
	m.Shuffle(len(bits), func(i, k int) { bits[i], bits[k] = bits[k], bits[i] })
	text := "module m (input [1:0] a, output [2:0] q, output [2:0] p, output reg l); reg [2:0] x; reg [2:0] y; reg [1:0] z; assign q = x; assign p = y ^ z;\n"
	for i, bit := range bits[:2+m.Intn(6)] {
		from := append([]string{"a[0]", "a[1]", "1"}, bits[i+1:]...)
		value := from[m.Intn(len(from))] + m.pick("& | ^") + from[m.Intn(len(from))]
		if m.Intn(20) == 0 {
			value += m.pick("& | ^") + m.pick("x[0] y[1] z")
		}
		text += "always @* begin " + bit + " = " + m.pick("0 1 a") + "; " + bit + " = " + value + "; end\n"
	}
	switch m.Intn(4) {
	case 0:
		text += "always @* if (a) l = 1;\n"
	case 1:
		text += "always @clk l = a;\n"
	case 2:
		text += "always @clk l <= x;\n"
	}
	return text + "endmodule"
}

// TestRestless: where such a text has a fault it never comes to rest, else it always does.
func TestRestless(t *testing.T) {
	m := maker{rand.New(rand.NewSource(6))}
	looped, rested := 0, 0
	for range 6000 {
		text := m.restless()
		d := designOf(t, text)
		trace, order := m.trace(), m.order()
		r := tellerOf(d, order)
		want, cycle := r.tell(trace)
		got, err := Run(d, trace, order)
		code, at := api.Code(err)
		switch {
		case cycle >= 0:
			looped++
			if code != api.FLoop || at != cycle || got != nil {
				t.Fatalf("%v, fault %d at %d, want FLoop at %d: order %v, trace %v\n%s", got, code, at, cycle, order, trace, text)
			}
		case code != 0 || len(got) != len(want) || len(got) > 0 && !reflect.DeepEqual(got, want):
			t.Fatalf("%v, fault %d at %d, want %v: order %v, trace %v\n%s", got, code, at, want, order, trace, text)
		case r.left > 0:
			rested++
		}
	}
	if looped < 400 || rested < 400 {
		t.Errorf("the texts show too little: %d loops, %d that were left off", looped, rested)
	}
}

// operation makes an expression of a kind, and of its operands nets.
func (m maker) operation(kind int, d *api.Design) api.Exp {
	net := func(width int) api.Exp {
		d.Inputs = append(d.Inputs, len(d.Nets))
		d.Nets = append(d.Nets, api.Net{Width: width, Dir: 1})
		return api.Exp{Kind: api.XNet, Width: width, Net: len(d.Nets) - 1}
	}
	w, v := 1+m.Intn(32), 1+m.Intn(32)
	x := api.Exp{Kind: kind, Width: w}
	switch kind {
	case api.XNum:
		x.Num = m.Uint64() >> (64 - w)
	case api.XNet:
		return net(w)
	case api.XBit:
		x.Width, x.Net = 1, net(w).Net
		x.Args = []api.Exp{net(1 + m.Intn(6))}
	case api.XSlice:
		x.Args = []api.Exp{net(w)}
		x.Num = uint64(m.Intn(w))
		x.Width = 1 + m.Intn(w-int(x.Num))
	case api.XExt:
		x.Args = []api.Exp{net(v)}
	case api.XCat:
		x.Width = 0
		for x.Width == 0 || x.Width < 32 && m.Intn(4) > 0 {
			part := 1 + m.Intn(32-x.Width)
			x.Args = append(x.Args, net(part))
			x.Width += part
		}
	case api.XNot:
		x.Args = []api.Exp{net(w)}
	case api.XAll, api.XAny, api.XOdd:
		x.Width = 1
		x.Args = []api.Exp{net(w)}
	case api.XShl, api.XShr:
		x.Args = []api.Exp{net(w), net(1 + m.Intn(6))}
	case api.XEq, api.XLt:
		x.Width = 1
		x.Args = []api.Exp{net(w), net(w)}
	case api.XIf:
		x.Args = []api.Exp{net(1), net(w), net(w)}
	default:
		x.Args = []api.Exp{net(w), net(w)}
	}
	return x
}

// inputs are random ones, with many zeros and ones among their bits.
func (m maker) inputs(n int) []uint64 {
	row := make([]uint64, n)
	for i := range row {
		switch m.Intn(4) {
		case 0:
			row[i] = 1<<32 - 1
		case 1:
			row[i] = uint64(m.Intn(40))
		case 2:
			row[i] = row[0]
		default:
			row[i] = m.Uint64()
		}
	}
	return row
}

func TestOperations(t *testing.T) {
	m := maker{rand.New(rand.NewSource(5))}
	for kind := api.XNum; kind <= api.XIf; kind++ {
		if kind == api.XWord {
			continue
		}
		t.Run(fmt.Sprint("kind ", kind), func(t *testing.T) {
			for range 400 {
				var d api.Design
				x := m.operation(kind, &d)
				q := len(d.Nets)
				d.Nets = append(d.Nets, api.Net{Width: x.Width, Dir: 2})
				d.Outputs = []int{q}
				d.Procs = []api.Proc{{Acts: []api.Act{{Kind: api.ASet, To: []api.Dest{{Net: q, Width: x.Width}}, Value: x}}}}
				var trace [][]uint64
				for range 8 {
					trace = append(trace, m.inputs(len(d.Inputs)))
				}
				want, _ := tellerOf(d, nil).tell(trace)
				got, err := Run(d, trace, nil)
				if err != nil || !reflect.DeepEqual(got, want) {
					t.Fatalf("%v, %v, want %v: %+v, trace %v", got, err, want, x, trace)
				}
			}
		})
	}
}
