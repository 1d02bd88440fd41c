package aig

import (
	"fmt"
	"math/rand"
	"reflect"
	"testing"

	"gatewright/api"
	"gatewright/word"
)

// weaver makes random netlists that are valid.
type weaver struct {
	*rand.Rand
	n api.Netlist
}

func (w *weaver) width() int {
	return []int{1, 1, 2, 3, 8, 1 + w.Intn(32)}[w.Intn(6)]
}

// value is a word of a width, often one of those at the edges.
func (w *weaver) value(width int) uint64 {
	switch w.Intn(4) {
	case 0:
		return uint64(w.Intn(3)) & (1<<width - 1)
	case 1:
		return 1<<width - 1
	case 2:
		return uint64(w.Intn(40)) & (1<<width - 1)
	}
	return w.Uint64() >> (64 - width)
}

func (w *weaver) push(x api.Node) int {
	w.n.Nodes = append(w.n.Nodes, x)
	return len(w.n.Nodes) - 1
}

// some gives a node of a width: one that is there, cut or filled up, or a number.
func (w *weaver) some(width int) int {
	a := w.any()
	switch {
	case w.Intn(12) == 0:
		return w.push(api.Node{Kind: api.XNum, Width: width, Num: w.value(width)})
	case w.n.Nodes[a].Width == width:
		return a
	}
	return w.push(api.Node{Kind: api.XExt, Width: width, Args: []int{a}})
}

func (w *weaver) any() int {
	if len(w.n.Nodes) == 0 {
		return w.push(api.Node{Kind: api.XNum, Width: 4, Num: 9})
	}
	return max(w.Intn(len(w.n.Nodes)), w.Intn(len(w.n.Nodes)))
}

// grow puts a node of a kind behind the others.
func (w *weaver) grow(kind int) {
	x := api.Node{Kind: kind, Width: w.width()}
	switch kind {
	case api.XNum:
		x.Num = w.value(x.Width)
	case api.XSlice:
		a := w.any()
		all := w.n.Nodes[a].Width
		x.Num = uint64(w.Intn(all))
		x.Width = 1 + w.Intn(all-int(x.Num))
		x.Args = []int{a}
	case api.XExt:
		x.Args = []int{w.any()}
	case api.XCat:
		x.Width = 0
		for x.Width == 0 || x.Width < 32 && w.Intn(4) > 0 {
			part := 1 + w.Intn(32-x.Width)
			x.Args = append(x.Args, w.some(part))
			x.Width += part
		}
	case api.XNot:
		x.Args = []int{w.some(x.Width)}
	case api.XAll, api.XAny, api.XOdd:
		x.Width = 1
		x.Args = []int{w.any()}
	case api.XShl, api.XShr:
		x.Args = []int{w.some(x.Width), w.any()}
	case api.XEq, api.XLt:
		x.Args = []int{w.some(x.Width), w.some(x.Width)}
		x.Width = 1
	case api.XIf:
		x.Args = []int{w.some(1), w.some(x.Width), w.some(x.Width)}
	case api.NIn:
		x.Num = uint64(w.Intn(len(w.n.Inputs)))
		x.Width = w.n.Inputs[x.Num]
	case api.NReg:
		x.Num = uint64(w.Intn(len(w.n.Regs)))
		x.Width = w.n.Regs[x.Num].Width
	case api.NRead:
		x.Num = uint64(w.Intn(len(w.n.Mems)))
		x.Width = w.n.Mems[x.Num].Width
		x.Args = []int{w.any()}
	default:
		x.Args = []int{w.some(x.Width), w.some(x.Width)}
	}
	w.push(x)
}

func (w *weaver) make(nodes int) api.Netlist {
	w.n = api.Netlist{}
	for range 1 + w.Intn(4) {
		w.n.Inputs = append(w.n.Inputs, w.width())
		r := api.Reg{Width: w.width()}
		r.Init = w.value(r.Width)
		w.n.Regs = append(w.n.Regs, r)
		w.n.Mems = append(w.n.Mems, api.Mem{Width: w.width(), Words: []int{1, 2, 3, 4, 5, 1 + w.Intn(40)}[w.Intn(6)]})
	}
	for i := range w.n.Inputs {
		w.push(api.Node{Kind: api.NIn, Width: w.n.Inputs[i], Num: uint64(i)})
		w.push(api.Node{Kind: api.NReg, Width: w.n.Regs[i].Width, Num: uint64(i)})
	}
	kinds := []int{api.NIn, api.NReg, api.NRead, api.NRead, api.XNum}
	for k := api.XSlice; k <= api.XIf; k++ {
		kinds = append(kinds, k)
	}
	for range nodes {
		w.grow(kinds[w.Intn(len(kinds))])
	}
	for i := range w.n.Regs {
		w.n.Regs[i].Next = w.some(w.n.Regs[i].Width)
	}
	for range w.Intn(5) {
		m := w.Intn(len(w.n.Mems))
		w.n.Writes = append(w.n.Writes, api.Write{Mem: m, When: w.some(1), Addr: w.any(), Data: w.some(w.n.Mems[m].Width)})
	}
	for range 1 + w.Intn(6) {
		w.n.Outputs = append(w.n.Outputs, w.any())
	}
	return w.n
}

func (w *weaver) trace(inputs []int, cycles int) [][]uint64 {
	all := make([][]uint64, cycles)
	for i := range all {
		for _, width := range inputs {
			all[i] = append(all[i], w.value(width))
		}
	}
	return all
}

// bitsOf writes words as bits, the lowest first.
func bitsOf(words []uint64, widths []int) []bool {
	var all []bool
	for i, v := range words {
		for k := range widths[i] {
			all = append(all, v>>k&1 == 1)
		}
	}
	return all
}

func outputWidths(n *api.Netlist) []int {
	var all []int
	for _, o := range n.Outputs {
		all = append(all, n.Nodes[o].Width)
	}
	return all
}

// blast makes a graph of a netlist, and looks whether it shows the same.
func blast(t *testing.T, name string, n api.Netlist, trace [][]uint64) api.Graph {
	t.Helper()
	g, err := Blast(n)
	if code, at := api.Code(err); err != nil {
		t.Fatalf("%s: fault %d at %d", name, code, at)
	}
	var bits [][]bool
	for _, row := range trace {
		bits = append(bits, bitsOf(row, n.Inputs))
	}
	inputs := 0
	for _, width := range n.Inputs {
		inputs += width
	}
	if !Valid(g) || g.Inputs != inputs {
		t.Fatalf("%s: valid: %v, %d inputs, want %d", name, Valid(g), g.Inputs, inputs)
	}
	widths := outputWidths(&n)
	got := Run(g, bits)
	for i, want := range word.Run(n, trace) {
		if want := bitsOf(want, widths); len(got[i]) != len(want) || len(want) > 0 && !reflect.DeepEqual(got[i], want) {
			t.Fatalf("%s: cycle %d: %v, want %v: %+v at %v", name, i, got[i], want, n, trace)
		}
	}
	return g
}

// size is a netlist's, as the chapter counts it.
func size(n *api.Netlist) int {
	sum := 0
	for i := range n.Nodes {
		x := &n.Nodes[i]
		switch x.Kind {
		case api.XMul:
			sum += x.Width * x.Width
		case api.XShl, api.XShr:
			sum += 6 * x.Width
		case api.NRead:
			sum += n.Mems[x.Num].Width * n.Mems[x.Num].Words
		default:
			sum += x.Width
			for _, a := range x.Args {
				sum += n.Nodes[a].Width
			}
		}
	}
	for _, w := range n.Writes {
		sum += n.Mems[w.Mem].Width * n.Mems[w.Mem].Words
	}
	return sum
}

// TestBlastRandom: netlists of all kinds of nodes.
func TestBlastRandom(t *testing.T) {
	w := &weaver{Rand: rand.New(rand.NewSource(5))}
	for i := range 4000 {
		n := w.make(w.Intn(60))
		if !word.Valid(n) {
			t.Fatalf("%d: not valid: %+v", i, n)
		}
		g := blast(t, fmt.Sprint(i), n, w.trace(n.Inputs, 8))
		if len(g.Ands) > 40*size(&n) {
			t.Errorf("%d: %d gates, size %d", i, len(g.Ands), size(&n))
		}
		if !isHashed(&g) || !reflect.DeepEqual(Clean(g), g) {
			t.Fatalf("%d: gates that need not be: %+v", i, g)
		}
	}
}

// pairOf is a netlist with one operation on two inputs.
func pairOf(kind, width, left, right int) api.Netlist {
	return api.Netlist{Inputs: []int{left, right}, Nodes: []api.Node{
		{Kind: api.NIn, Width: left}, {Kind: api.NIn, Width: right, Num: 1}, {Kind: kind, Width: width, Args: []int{0, 1}},
	}, Outputs: []int{2}}
}

// TestBlastPairs: operations on two words, everywhere if they are short.
func TestBlastPairs(t *testing.T) {
	w := &weaver{Rand: rand.New(rand.NewSource(6))}
	for kind := api.XAnd; kind <= api.XLt; kind++ {
		isShift := kind == api.XShl || kind == api.XShr
		for left := 1; left <= 32; left++ {
			right, width := left, left
			if isShift {
				right = 1 + w.Intn(32)
			}
			if kind == api.XEq || kind == api.XLt {
				width = 1
			}
			n := pairOf(kind, width, left, right)
			trace := w.trace(n.Inputs, 60)
			if left+right <= 8 {
				trace = nil
				for a := range uint64(1) << left {
					for b := range uint64(1) << right {
						trace = append(trace, []uint64{a, b})
					}
				}
			}
			name := fmt.Sprintf("kind %d of %d and %d", kind, left, right)
			g := blast(t, name, n, trace)
			if len(g.Ands) > 40*size(&n) {
				t.Errorf("%s: %d gates", name, len(g.Ands))
			}
		}
	}
}

// TestBlastFew: how many gates the operations need, at the most.
func TestBlastFew(t *testing.T) {
	for _, c := range []struct{ kind, width, most int }{
		{api.XAnd, 8, 8}, {api.XXor, 8, 24}, {api.XAdd, 8, 53}, {api.XSub, 8, 53}, {api.XEq, 1, 31}, {api.XLt, 1, 30}, {api.XMul, 8, 280}, {api.XShl, 8, 80},
	} {
		g := blast(t, fmt.Sprint(c.kind), pairOf(c.kind, c.width, 8, 8), nil)
		if len(g.Ands) > c.most {
			t.Errorf("kind %d: %d gates, at the most %d", c.kind, len(g.Ands), c.most)
		}
	}
}

// memoryOf is a netlist that writes and reads a memory twice in each cycle.
func memoryOf(width, words, address int) api.Netlist {
	n := api.Netlist{Inputs: []int{1, address, width, 1, address, width}, Mems: []api.Mem{{Width: width, Words: words}}}
	for i, in := range n.Inputs {
		n.Nodes = append(n.Nodes, api.Node{Kind: api.NIn, Width: in, Num: uint64(i)})
	}
	n.Nodes = append(n.Nodes, api.Node{Kind: api.NRead, Width: width, Args: []int{1}}, api.Node{Kind: api.NRead, Width: width, Args: []int{4}})
	n.Writes = []api.Write{{When: 0, Addr: 1, Data: 2}, {When: 3, Addr: 4, Data: 5}}
	n.Outputs = []int{6, 7}
	return n
}

// TestBlastMemories: addresses that are too narrow, as wide as need be, and beyond; the last write counts.
func TestBlastMemories(t *testing.T) {
	w := &weaver{Rand: rand.New(rand.NewSource(7))}
	for _, words := range []int{1, 2, 3, 4, 5, 7, 8, 9, 31, 32, 33, 255, 256} {
		for _, address := range []int{1, 2, 3, 5, 8, 9, 32} {
			n := memoryOf(1+w.Intn(3), words, address)
			trace := w.trace(n.Inputs, 200)
			for i := range trace {
				if w.Intn(3) == 0 {
					trace[i][4] = trace[i][1]
				}
				if w.Intn(3) > 0 {
					trace[i][1] = uint64(w.Intn(words+2)) & (1<<address - 1)
				}
			}
			g := blast(t, fmt.Sprintf("%d words, address of %d", words, address), n, trace)
			if len(g.Ands) > 40*size(&n) {
				t.Errorf("%d words, address of %d: %d gates, size %d", words, address, len(g.Ands), size(&n))
			}
		}
	}
}

// hasFault looks at the fault that a netlist gives; with it there must be no graph.
func hasFault(t *testing.T, name string, n api.Netlist, want int) {
	t.Helper()
	g, err := Blast(n)
	code, at := api.Code(err)
	if code != want || at != 0 {
		t.Errorf("%s: fault %d at %d, want %d", name, code, at, want)
	}
	if code != 0 && !reflect.DeepEqual(g, api.Graph{}) || code == 0 && !Valid(g) {
		t.Errorf("%s: fault %d, and a graph of %d gates", name, code, len(g.Ands))
	}
}

func times(count, width int) []int {
	all := make([]int, count)
	for i := range all {
		all[i] = width
	}
	return all
}

// TestBlastLimits: just within, just beyond.
func TestBlastLimits(t *testing.T) {
	regs := func(bits int) api.Netlist {
		n := api.Netlist{Nodes: []api.Node{{Kind: api.XNum, Width: 1}}}
		for range bits {
			n.Regs = append(n.Regs, api.Reg{Width: 1, Init: 1})
		}
		return n
	}
	hasFault(t, "6000 registers", regs(6000), 0)
	hasFault(t, "6001 registers", regs(6001), api.FBig)
	both := regs(6000 - 30*200)
	both.Mems = []api.Mem{{Width: 30, Words: 200}}
	hasFault(t, "a memory of 6000 bits", both, 0)
	both = regs(6001 - 30*200)
	both.Mems = []api.Mem{{Width: 30, Words: 200}}
	hasFault(t, "a memory of 6000 bits, and a register", both, api.FBig)
	outs := api.Netlist{Nodes: []api.Node{{Kind: api.XNum, Width: 32, Num: 5}, {Kind: api.XNum, Width: 1, Num: 1}}, Outputs: make([]int, 1875)}
	hasFault(t, "outputs of 60000 bits", outs, 0)
	outs.Outputs = append(outs.Outputs, 1)
	hasFault(t, "outputs of 60001 bits", outs, api.FBig)
	hasFault(t, "inputs of 59999 bits", api.Netlist{Inputs: append(times(1874, 32), 31)}, 0)
	hasFault(t, "inputs of 60000 bits", api.Netlist{Inputs: times(1875, 32)}, api.FBig)
	full := api.Netlist{Inputs: append(times(1687, 32), 16), Mems: []api.Mem{{Width: 30, Words: 200}}}
	hasFault(t, "inputs of 54000 bits, a memory of 6000", full, 0)
	full.Inputs = append(full.Inputs, 32)
	hasFault(t, "inputs of 54032 bits, a memory of 6000 that nobody reads", full, 0)
	full.Nodes = []api.Node{{Kind: api.NIn, Width: 32}, {Kind: api.NRead, Width: 30, Args: []int{0}}}
	full.Writes = []api.Write{{When: 2, Addr: 0, Data: 1}}
	full.Nodes = append(full.Nodes, api.Node{Kind: api.XSlice, Width: 1, Args: []int{0}})
	full.Outputs = []int{1}
	hasFault(t, "one that somebody reads", full, api.FBig)
}

// TestBlastSure: as large as may be where FBig must not be told, of nodes that need many gates for their size.
func TestBlastSure(t *testing.T) {
	w := &weaver{Rand: rand.New(rand.NewSource(8))}
	for _, c := range []struct {
		name string
		grow func(n *api.Netlist, i int)
	}{
		{"reads of one bit by wide addresses", func(n *api.Netlist, i int) {
			n.Nodes = append(n.Nodes, api.Node{Kind: api.NIn, Width: 32, Num: uint64(i % 8)}, api.Node{Kind: api.NIn, Width: 32, Num: uint64(8 + i/8)})
			k := len(n.Nodes)
			n.Nodes = append(n.Nodes, api.Node{Kind: api.XXor, Width: 32, Args: []int{k - 2, k - 1}}, api.Node{Kind: api.NRead, Width: 1, Args: []int{k}})
			n.Writes = append(n.Writes, api.Write{When: k + 1, Addr: k, Data: k + 1})
			n.Outputs = append(n.Outputs, k+1)
		}},
		{"products", func(n *api.Netlist, i int) {
			n.Nodes = append(n.Nodes, api.Node{Kind: api.NIn, Width: 32, Num: uint64(i % 8)}, api.Node{Kind: api.NIn, Width: 32, Num: uint64(8 + i/8)})
			k := len(n.Nodes)
			n.Nodes = append(n.Nodes, api.Node{Kind: api.XMul, Width: 32, Args: []int{k - 2, k - 1}})
			n.Outputs = append(n.Outputs, k)
		}},
		{"shifts of one bit", func(n *api.Netlist, i int) {
			n.Nodes = append(n.Nodes, api.Node{Kind: api.NIn, Width: 32, Num: uint64(i % 8)}, api.Node{Kind: api.XSlice, Width: 1, Num: uint64(i / 8 % 32), Args: []int{len(n.Nodes)}})
			k := len(n.Nodes)
			n.Nodes = append(n.Nodes, api.Node{Kind: api.XShr, Width: 1, Args: []int{k - 1, k - 2}})
			n.Outputs = append(n.Outputs, k)
		}},
		{"sums", func(n *api.Netlist, i int) {
			n.Nodes = append(n.Nodes, api.Node{Kind: api.NIn, Width: 32, Num: uint64(i % 8)}, api.Node{Kind: api.NIn, Width: 32, Num: uint64(8 + i/8)})
			k := len(n.Nodes)
			n.Nodes = append(n.Nodes, api.Node{Kind: api.XAdd, Width: 32, Args: []int{k - 2, k - 1}}, api.Node{Kind: api.XLt, Width: 1, Args: []int{k, k - 1}})
			n.Outputs = append(n.Outputs, k+1)
		}},
	} {
		n := api.Netlist{Inputs: times(40, 32), Mems: []api.Mem{{Width: 1, Words: 1}, {Width: 23, Words: 256}}}
		for i := 0; ; i++ {
			more := n
			c.grow(&more, i)
			if 40*size(&more)+32*len(more.Inputs) > 54000 {
				break
			}
			n = more
		}
		g := blast(t, c.name, n, w.trace(n.Inputs, 5))
		t.Logf("%s: size %d, %d gates", c.name, size(&n), len(g.Ands))
	}
}

// TestBlastLarge: what is far too large is told soon; what nobody needs does not count.
func TestBlastLarge(t *testing.T) {
	n := pairOf(api.XMul, 32, 32, 32)
	for i := range 60000 {
		n.Nodes = append(n.Nodes, api.Node{Kind: api.XMul, Width: 32, Args: []int{2 + i, i % 2}})
	}
	hasFault(t, "many products that nobody needs", n, 0)
	n.Outputs = []int{len(n.Nodes) - 1}
	hasFault(t, "many products", n, api.FBig)
}

// TestBlastWrong: what is no netlist gives a fault, not a panic.
func TestBlastWrong(t *testing.T) {
	for i, n := range []api.Netlist{
		{Outputs: []int{0}},
		{Inputs: []int{33}},
		{Nodes: []api.Node{{Kind: api.XNot, Width: 1, Args: []int{0}}}},
		{Nodes: []api.Node{{Kind: api.XNum, Width: 1}}, Regs: []api.Reg{{Width: 2}}},
		{Nodes: []api.Node{{Kind: 99, Width: 1}}},
	} {
		hasFault(t, fmt.Sprint(i), n, api.FKind)
	}
}
