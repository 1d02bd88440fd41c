package word

import (
	"math"
	"math/rand"
	"reflect"
	"testing"

	"gatewright/api"
)

// weaver makes random netlists that are valid.
type weaver struct {
	*rand.Rand
	n      api.Netlist
	narrow bool // few widths, so that much has the same operands
}

func (w *weaver) width() int {
	if w.narrow {
		return []int{1, 1, 8}[w.Intn(3)]
	}
	return []int{1, 1, 2, 3, 8, 31, 32, 1 + w.Intn(32)}[w.Intn(8)]
}

func (w *weaver) value(width int) uint64 {
	switch w.Intn(4) {
	case 0:
		return 0
	case 1:
		return 1<<width - 1
	case 2:
		return uint64(w.Intn(40)) & (1<<width - 1)
	}
	return w.Uint64() >> (64 - width)
}

// some gives a node of a width, and makes one, if there is none (or if it is better so).
func (w *weaver) some(width int) int {
	var all []int
	for i := range w.n.Nodes {
		if w.n.Nodes[i].Width == width {
			all = append(all, i)
		}
	}
	if len(all) > 0 && w.Intn(8) > 0 {
		return all[w.Intn(len(all))]
	}
	w.n.Nodes = append(w.n.Nodes, api.Node{Kind: api.XNum, Width: width, Num: w.value(width)})
	return len(w.n.Nodes) - 1
}

func (w *weaver) any() int {
	if len(w.n.Nodes) == 0 {
		return w.some(w.width())
	}
	return w.Intn(len(w.n.Nodes))
}

// grow puts a node of a kind behind the others.
func (w *weaver) grow(kind int) {
	x := api.Node{Kind: kind, Width: w.width()}
	switch kind {
	case api.XNum:
		x.Num = w.value(x.Width)
	case api.XSlice:
		a := w.any()
		all := w.n.Nodes[a].Width
		x.Num = uint64(w.Intn(all))
		x.Width = 1 + w.Intn(all-int(x.Num))
		x.Args = []int{a}
	case api.XExt:
		x.Args = []int{w.any()}
	case api.XCat:
		x.Width = 0
		for x.Width == 0 || x.Width < 32 && w.Intn(4) > 0 {
			part := 1 + w.Intn(32-x.Width)
			x.Args = append(x.Args, w.some(part))
			x.Width += part
		}
	case api.XNot:
		x.Args = []int{w.some(x.Width)}
	case api.XAll, api.XAny, api.XOdd:
		x.Width = 1
		x.Args = []int{w.any()}
	case api.XShl, api.XShr:
		x.Args = []int{w.some(x.Width), w.any()}
	case api.XEq, api.XLt:
		x.Args = []int{w.some(x.Width), w.some(x.Width)}
		x.Width = 1
	case api.XIf:
		x.Args = []int{w.some(1), w.some(x.Width), w.some(x.Width)}
	case api.NIn:
		x.Num = uint64(w.Intn(len(w.n.Inputs)))
		x.Width = w.n.Inputs[x.Num]
	case api.NReg:
		x.Num = uint64(w.Intn(len(w.n.Regs)))
		x.Width = w.n.Regs[x.Num].Width
	case api.NRead:
		x.Num = uint64(w.Intn(len(w.n.Mems)))
		x.Width = w.n.Mems[x.Num].Width
		x.Args = []int{w.any()}
	default:
		x.Args = []int{w.some(x.Width), w.some(x.Width)}
	}
	w.n.Nodes = append(w.n.Nodes, x)
}

func (w *weaver) make(nodes int) api.Netlist {
	w.n = api.Netlist{}
	for range 1 + w.Intn(4) {
		w.n.Inputs = append(w.n.Inputs, w.width())
		r := api.Reg{Width: w.width()}
		r.Init = w.value(r.Width)
		w.n.Regs = append(w.n.Regs, r)
		w.n.Mems = append(w.n.Mems, api.Mem{Width: w.width(), Words: []int{1, 2, 3, 256, 1 + w.Intn(256)}[w.Intn(5)]})
	}
	kinds := []int{api.NIn, api.NReg, api.NRead, api.XNum}
	for k := api.XSlice; k <= api.XIf; k++ {
		kinds = append(kinds, k)
	}
	for range nodes {
		w.grow(kinds[w.Intn(len(kinds))])
	}
	for i := range w.n.Regs {
		w.n.Regs[i].Next = w.some(w.n.Regs[i].Width)
	}
	for range w.Intn(4) {
		m := w.Intn(len(w.n.Mems))
		w.n.Writes = append(w.n.Writes, api.Write{Mem: m, When: w.some(1), Addr: w.any(), Data: w.some(w.n.Mems[m].Width)})
	}
	for range w.Intn(6) {
		w.n.Outputs = append(w.n.Outputs, w.any())
	}
	return w.n
}

func (w *weaver) trace() [][]uint64 {
	var all [][]uint64
	for range w.Intn(8) {
		var row []uint64
		for range w.Intn(6) {
			row = append(row, w.value(32)|w.Uint64()<<32)
		}
		all = append(all, row)
	}
	return all
}

// asTold is whether a netlist is valid, said once more: each kind has a row of what it asks for.
func asTold(n api.Netlist) bool {
	const free, own, single = -1, -2, 1
	type row struct{ width, a, b, c int }
	rows := map[int]row{
		api.XNum: {free, 0, 0, 0}, api.NIn: {free, 0, 0, 0}, api.NReg: {free, 0, 0, 0}, api.NRead: {free, free, 0, 0},
		api.XSlice: {free, free, 0, 0}, api.XExt: {free, free, 0, 0}, api.XNot: {free, own, 0, 0},
		api.XAll: {single, free, 0, 0}, api.XAny: {single, free, 0, 0}, api.XOdd: {single, free, 0, 0},
		api.XAnd: {free, own, own, 0}, api.XOr: {free, own, own, 0}, api.XXor: {free, own, own, 0}, api.XAdd: {free, own, own, 0}, api.XSub: {free, own, own, 0}, api.XMul: {free, own, own, 0},
		api.XShl: {free, own, free, 0}, api.XShr: {free, own, free, 0}, api.XEq: {single, free, free, 0}, api.XLt: {single, free, free, 0}, api.XIf: {free, single, own, own},
	}
	right := true
	need := func(holds bool) { right = right && holds }
	node := func(i int) int {
		if i < 0 || i >= len(n.Nodes) {
			need(false)
			return 0
		}
		return n.Nodes[i].Width
	}
	for _, w := range n.Inputs {
		need(w > 0 && w < 33)
	}
	for _, m := range n.Mems {
		need(m.Width > 0 && m.Width < 33 && m.Words > 0 && m.Words < 257)
	}
	for _, r := range n.Regs {
		need(r.Width > 0 && r.Width < 33 && node(r.Next) == r.Width)
		need(right && r.Init < 1<<r.Width)
	}
	for _, w := range n.Writes {
		if w.Mem < 0 || w.Mem >= len(n.Mems) {
			return false
		}
		node(w.Addr)
		need(node(w.When) == 1 && node(w.Data) == n.Mems[w.Mem].Width)
	}
	for _, o := range n.Outputs {
		node(o)
	}
	for i, x := range n.Nodes {
		if x.Width < 1 || x.Width > 32 {
			return false
		}
		var widths []int
		for _, a := range x.Args {
			if a < 0 || a >= i {
				return false
			}
			widths = append(widths, n.Nodes[a].Width)
		}
		rule, there := rows[x.Kind]
		if x.Kind == api.XCat {
			sum := 0
			for _, w := range widths {
				sum += w
			}
			need(sum == x.Width && x.Num == 0)
			continue
		}
		need(there)
		wanted := []int{}
		for _, w := range []int{rule.a, rule.b, rule.c} {
			if w == own {
				w = x.Width
			}
			if w != 0 {
				wanted = append(wanted, w)
			}
		}
		need(rule.width == free || rule.width == x.Width)
		if len(wanted) != len(widths) {
			return false
		}
		for k := range wanted {
			need(wanted[k] == free || wanted[k] == widths[k])
		}
		switch x.Kind {
		case api.XEq, api.XLt:
			need(widths[0] == widths[1] && x.Num == 0)
		case api.XNum:
			need(x.Num < 1<<x.Width)
		case api.XSlice:
			need(x.Num < 32 && int(x.Num)+x.Width <= widths[0])
		case api.NIn:
			need(x.Num < uint64(len(n.Inputs)) && n.Inputs[int(x.Num)%len(n.Inputs)] == x.Width)
		case api.NReg:
			need(x.Num < uint64(len(n.Regs)) && n.Regs[int(x.Num)%len(n.Regs)].Width == x.Width)
		case api.NRead:
			need(x.Num < uint64(len(n.Mems)) && n.Mems[int(x.Num)%len(n.Mems)].Width == x.Width)
		default:
			need(x.Num == 0)
		}
	}
	return right
}

// spoil changes one number of a netlist.
func (w *weaver) spoil(n *api.Netlist) {
	number := func(was int) int {
		return []int{was + 1, was - 1, -1, 0, 1, 32, 33, 256, 257, math.MinInt, math.MaxInt, w.Intn(len(n.Nodes) + 2)}[w.Intn(12)]
	}
	word := func(was uint64) uint64 {
		return []uint64{was + 1, was - 1, 0, 1, 31, 32, 1 << 32, math.MaxUint64, 1 << 63}[w.Intn(9)]
	}
	x := &n.Nodes[w.Intn(len(n.Nodes))]
	k := w.Intn(len(n.Regs))
	switch w.Intn(14) {
	case 0, 1:
		x.Kind = w.Intn(36) - 1
	case 2, 3:
		x.Width = number(x.Width)
	case 4, 5:
		x.Num = word(x.Num)
	case 6, 7:
		if len(x.Args) > 0 {
			x.Args[w.Intn(len(x.Args))] = number(x.Args[0])
		}
	case 8:
		x.Args = append(x.Args, w.Intn(len(n.Nodes)))
	case 9:
		if len(x.Args) > 0 {
			x.Args = x.Args[1:]
		}
	case 10:
		n.Inputs[k] = number(n.Inputs[k])
		n.Mems[k].Words = number(n.Mems[k].Words)
	case 11:
		n.Regs[k].Width, n.Regs[k].Init = number(n.Regs[k].Width), word(n.Regs[k].Init)
	case 12:
		n.Regs[k].Next, n.Mems[k].Width = number(n.Regs[k].Next), number(n.Mems[k].Width)
	case 13:
		if len(n.Writes) > 0 {
			x := &n.Writes[0]
			to := []*int{&x.Mem, &x.When, &x.Addr, &x.Data}[w.Intn(4)]
			*to = number(*to)
		} else if len(n.Outputs) > 0 {
			n.Outputs[0] = number(n.Outputs[0])
		}
	}
}

func TestValidRandom(t *testing.T) {
	w := &weaver{Rand: rand.New(rand.NewSource(8))}
	right, wrong := 0, 0
	for range 30000 {
		n := w.make(1 + w.Intn(12))
		if !Valid(n) || !asTold(n) {
			t.Fatalf("what is right is refused: %+v", n)
		}
		w.spoil(&n)
		want := asTold(n)
		if Valid(n) != want {
			t.Fatalf("%v, want %v: %+v", !want, want, n)
		}
		if want {
			right++
			continue
		}
		wrong++
		if rows := Run(n, w.trace()); rows != nil {
			t.Fatalf("what is wrong runs: %+v", n)
		}
	}
	if right < 2000 || wrong < 5000 {
		t.Errorf("%d are still right, %d wrong", right, wrong)
	}
}

func TestValidByHand(t *testing.T) {
	node := func(kind, width int, num uint64, args ...int) api.Node {
		return api.Node{Kind: kind, Width: width, Num: num, Args: args}
	}
	four, one := node(api.XNum, 4, 9), node(api.XNum, 1, 1)
	for _, c := range []struct {
		name  string
		node  api.Node
		right bool
	}{
		{"a number", node(api.XNum, 32, 1<<32-1), true},
		{"a number that does not fit", node(api.XNum, 31, 1<<31), false},
		{"a number with an operand", node(api.XNum, 4, 1, 0), false},
		{"no width", node(api.XNum, 0, 0), false},
		{"too wide", node(api.XNum, 33, 0), false},
		{"a net", node(api.XNet, 4, 0), false},
		{"a word", node(api.XWord, 4, 0, 0), false},
		{"a bit", node(api.XBit, 1, 0, 0), false},
		{"no kind", node(0, 1, 0), false},
		{"a kind that there is not", node(33, 4, 0, 0), false},
		{"all of a part", node(api.XSlice, 4, 0, 0), true},
		{"its end", node(api.XSlice, 1, 3, 0), true},
		{"beyond it", node(api.XSlice, 2, 3, 0), false},
		{"far beyond it", node(api.XSlice, 1, 1<<63, 0), false},
		{"wider than it", node(api.XSlice, 5, 0, 0), false},
		{"an extension", node(api.XExt, 32, 0, 0), true},
		{"a cut", node(api.XExt, 1, 0, 0), true},
		{"an extension with a number", node(api.XExt, 8, 1, 0), false},
		{"side by side", node(api.XCat, 9, 0, 0, 1, 0), true},
		{"one alone", node(api.XCat, 4, 0, 0), true},
		{"none", node(api.XCat, 1, 0), false},
		{"another sum", node(api.XCat, 8, 0, 0, 1, 0), false},
		{"each bit", node(api.XNot, 4, 0, 0), true},
		{"each bit of another width", node(api.XNot, 1, 0, 0), false},
		{"whether all", node(api.XAll, 1, 0, 0), true},
		{"whether all, wide", node(api.XAll, 4, 0, 0), false},
		{"whether one", node(api.XAny, 1, 0, 1), true},
		{"whether odd, of two", node(api.XOdd, 1, 0, 0, 0), false},
		{"a sum", node(api.XAdd, 4, 0, 0, 0), true},
		{"a sum of one", node(api.XAdd, 4, 0, 0), false},
		{"a sum of unlike ones", node(api.XAdd, 4, 0, 0, 1), false},
		{"a wide sum", node(api.XMul, 8, 0, 0, 0), false},
		{"a shift by another width", node(api.XShl, 4, 0, 0, 1), true},
		{"a shift of another width", node(api.XShr, 4, 0, 1, 0), false},
		{"alike", node(api.XEq, 1, 0, 0, 0), true},
		{"alike, of unlike widths", node(api.XEq, 1, 0, 0, 1), false},
		{"less, wide", node(api.XLt, 4, 0, 0, 0), false},
		{"a choice", node(api.XIf, 4, 0, 1, 0, 0), true},
		{"a choice by a word", node(api.XIf, 4, 0, 0, 0, 0), false},
		{"a choice of unlike ones", node(api.XIf, 4, 0, 1, 0, 1), false},
		{"an input", node(api.NIn, 3, 1), true},
		{"an input of another width", node(api.NIn, 4, 1), false},
		{"no input", node(api.NIn, 3, 2), false},
		{"a register", node(api.NReg, 4, 0), true},
		{"no register", node(api.NReg, 4, math.MaxUint64), false},
		{"a register of another width", node(api.NReg, 3, 0), false},
		{"a read", node(api.NRead, 7, 0, 1), true},
		{"a read without an address", node(api.NRead, 7, 0), false},
		{"a read of no memory", node(api.NRead, 7, 1, 1), false},
		{"a node behind", node(api.XNot, 4, 0, 3), false},
		{"itself", node(api.XNot, 4, 0, 2), false},
		{"a node ahead of all", node(api.XNot, 4, 0, -1), false},
	} {
		n := api.Netlist{Inputs: []int{1, 3}, Nodes: []api.Node{four, one, c.node, four}, Regs: []api.Reg{{Width: 4, Init: 15}}, Mems: []api.Mem{{Width: 7, Words: 256}}}
		if Valid(n) != c.right {
			t.Errorf("%s: want %v", c.name, c.right)
		}
	}
}

// meaning is what a node is worth, worked out bit by bit from the definition, with no memory of other nodes.
func meaning(n api.Netlist, at int, row, regs []uint64, words [][]uint64) []bool {
	x := n.Nodes[at]
	var args [][]bool
	for _, a := range x.Args {
		args = append(args, meaning(n, a, row, regs, words))
	}
	number := func(bits []bool) uint64 {
		v := uint64(0)
		for i, b := range bits {
			if b {
				v += 1 << i
			}
		}
		return v
	}
	out := make([]bool, x.Width)
	from := func(v uint64) []bool {
		for i := range out {
			out[i] = v>>i%2 == 1
		}
		return out
	}
	bit := func(b bool) []bool { return []bool{b} }
	ones := func() int {
		k := 0
		for _, b := range args[0] {
			if b {
				k++
			}
		}
		return k
	}
	switch x.Kind {
	case api.XNum:
		return from(x.Num)
	case api.NIn:
		if int(x.Num) < len(row) {
			return from(row[x.Num])
		}
		return out
	case api.NReg:
		return from(regs[x.Num])
	case api.NRead:
		if at := number(args[0]); at < uint64(len(words[x.Num])) {
			return from(words[x.Num][at])
		}
		return out
	case api.XSlice:
		return args[0][x.Num : int(x.Num)+x.Width]
	case api.XExt:
		copy(out, args[0])
		return out
	case api.XCat:
		var all []bool
		for i := len(args) - 1; i >= 0; i-- {
			all = append(all, args[i]...)
		}
		return all
	case api.XAll:
		return bit(ones() == len(args[0]))
	case api.XAny:
		return bit(ones() > 0)
	case api.XOdd:
		return bit(ones()%2 == 1)
	case api.XIf:
		if args[0][0] {
			return args[1]
		}
		return args[2]
	case api.XNot:
		return from(1<<x.Width - 1 - number(args[0]))
	}
	a, b := number(args[0]), number(args[1])
	switch x.Kind {
	case api.XAnd, api.XOr, api.XXor:
		for i := range out {
			k := 0
			if args[0][i] {
				k++
			}
			if args[1][i] {
				k++
			}
			out[i] = x.Kind == api.XAnd && k == 2 || x.Kind == api.XOr && k > 0 || x.Kind == api.XXor && k == 1
		}
		return out
	case api.XAdd:
		return from((a + b) % (1 << x.Width))
	case api.XSub:
		return from((a + 1<<x.Width - b) % (1 << x.Width))
	case api.XMul:
		return from(a * b % (1 << x.Width))
	case api.XShl, api.XShr:
		for i := range out {
			to := uint64(i) + b
			if x.Kind == api.XShl && to < uint64(x.Width) {
				out[to] = args[0][i]
			} else if x.Kind == api.XShr && to < uint64(x.Width) {
				out[i] = args[0][to]
			}
		}
		return out
	case api.XEq:
		return bit(reflect.DeepEqual(args[0], args[1]))
	}
	return bit(a < b)
}

// told is what a netlist shows, as the document says it.
func told(n api.Netlist, trace [][]uint64) [][]uint64 {
	worth := func(at int, row, regs []uint64, words [][]uint64) uint64 {
		v := uint64(0)
		for i, b := range meaning(n, at, row, regs, words) {
			if b {
				v += 1 << i
			}
		}
		return v
	}
	var regs []uint64
	var words [][]uint64
	for _, r := range n.Regs {
		regs = append(regs, r.Init)
	}
	for _, m := range n.Mems {
		words = append(words, make([]uint64, m.Words))
	}
	rows := [][]uint64{}
	for _, row := range trace {
		line := []uint64{}
		for _, o := range n.Outputs {
			line = append(line, worth(o, row, regs, words))
		}
		rows = append(rows, line)
		var next []uint64
		for _, r := range n.Regs {
			next = append(next, worth(r.Next, row, regs, words))
		}
		var set []func()
		for _, w := range n.Writes {
			at, data := worth(w.Addr, row, regs, words), worth(w.Data, row, regs, words)
			if worth(w.When, row, regs, words) == 1 && at < uint64(len(words[w.Mem])) {
				set = append(set, func() { words[w.Mem][at] = data })
			}
		}
		for _, s := range set {
			s()
		}
		regs = next
	}
	return rows
}

func TestRunRandom(t *testing.T) {
	w := &weaver{Rand: rand.New(rand.NewSource(9))}
	for range 8000 {
		n := w.make(1 + w.Intn(16))
		trace := w.trace()
		if got, want := Run(n, trace), told(n, trace); !reflect.DeepEqual(got, want) {
			t.Fatalf("%v, want %v: trace %v, %+v", got, want, trace, n)
		}
	}
}

// TestSimpler: nodes that are made simpler on the way are worth the same.
func TestSimpler(t *testing.T) {
	w := &weaver{Rand: rand.New(rand.NewSource(10))}
	shorter := 0
	for turn := range 20000 {
		w.narrow = turn%2 == 0
		n := w.make(1 + w.Intn(20))
		b := newBook()
		var at []int
		for _, x := range n.Nodes {
			var args []int
			for _, a := range x.Args {
				args = append(args, at[a])
			}
			switch x.Kind {
			case api.XNum, api.NIn, api.NReg, api.NRead:
				at = append(at, b.node(x.Kind, x.Width, x.Num, args...))
			case api.XSlice:
				at = append(at, b.join([]part{{args[0], int(x.Num), x.Width}}))
			case api.XCat:
				var all []part
				for i := len(args) - 1; i >= 0; i-- {
					all = append(all, part{args[i], 0, b.width(args[i])})
				}
				at = append(at, b.join(all))
			default:
				at = append(at, b.operation(x.Kind, x.Width, args...))
			}
		}
		made := api.Netlist{Inputs: n.Inputs, Nodes: b.nodes, Mems: n.Mems}
		for _, r := range n.Regs {
			r.Next = at[r.Next]
			made.Regs = append(made.Regs, r)
		}
		for _, x := range n.Writes {
			made.Writes = append(made.Writes, api.Write{Mem: x.Mem, When: at[x.When], Addr: at[x.Addr], Data: at[x.Data]})
		}
		n.Outputs = nil
		for i := range at {
			n.Outputs = append(n.Outputs, i)
			made.Outputs = append(made.Outputs, at[i])
		}
		if !Valid(made) {
			t.Fatalf("%+v became %+v", n, made)
		}
		sifted := needed(&made)
		if len(sifted.Nodes) < len(n.Nodes) {
			shorter++
		}
		trace := w.trace()
		want := Run(n, trace)
		if got := Run(made, trace); !reflect.DeepEqual(got, want) {
			t.Fatalf("%v, want %v: %+v became %+v", got, want, n, made)
		}
		if got := Run(sifted, trace); !Valid(sifted) || !reflect.DeepEqual(got, want) {
			t.Fatalf("%v, want %v: %+v became %+v", got, want, n, sifted)
		}
	}
	if shorter < 5000 {
		t.Errorf("only %d became shorter", shorter)
	}
}
