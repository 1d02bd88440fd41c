package aig

import "gatewright/api"

// blaster makes gates of the nodes of a netlist. A word is a list of literals, the lowest bit's first.
type blaster struct {
	*gates
	*api.Netlist
	inputs, regs [][]int
	mems         [][][]int // of each memory, its words
	words        [][]int   // of each node
}

// tooWide asks whether a netlist has more bits than a graph may have latches or outputs.
func tooWide(n *api.Netlist) bool {
	kept, shown := 0, 0
	for i := range n.Regs {
		kept += n.Regs[i].Width
	}
	for i := range n.Mems {
		kept += n.Mems[i].Width * n.Mems[i].Words
	}
	for _, o := range n.Outputs {
		shown += n.Nodes[o].Width
	}
	return kept > api.MaxLatch || shown > mostOutputs
}

// blasted gives the graph of a netlist, needed or not. Its latches are the bits of the registers, then those of the memories, word by word.
func blasted(n *api.Netlist) api.Graph {
	b := &blaster{gates: newGates(1), Netlist: n, words: make([][]int, len(n.Nodes))}
	g := api.Graph{Inputs: b.layInputs()}
	b.layLatches()
	for i, isNeeded := range needed(n) {
		if isNeeded {
			b.words[i] = b.word(&n.Nodes[i])
		}
	}
	for i := range n.Regs {
		r := &n.Regs[i]
		g.Latches = append(g.Latches, latches(b.words[r.Next], r.Init)...)
	}
	for _, words := range b.written() {
		for _, next := range words {
			g.Latches = append(g.Latches, latches(next, 0)...)
		}
	}
	for _, o := range n.Outputs {
		g.Outputs = append(g.Outputs, b.words[o]...)
	}
	g.Ands = b.ands
	return g
}

func latches(next []int, init uint64) []api.Latch {
	var all []api.Latch
	for i, literal := range next {
		all = append(all, api.Latch{Next: literal, Init: init>>i&1 == 1})
	}
	return all
}

// needed tells the nodes on which an output, a register or a write hangs: no gates are made of others.
func needed(n *api.Netlist) []bool {
	is := make([]bool, len(n.Nodes))
	for _, o := range n.Outputs {
		is[o] = true
	}
	for i := range n.Regs {
		is[n.Regs[i].Next] = true
	}
	for _, w := range n.Writes {
		is[w.When], is[w.Addr], is[w.Data] = true, true, true
	}
	for i := len(is) - 1; i >= 0; i-- {
		if !is[i] {
			continue
		}
		for _, a := range n.Nodes[i].Args {
			is[a] = true
		}
	}
	return is
}

// lay gives a word of variables that are not gates; the first gate is behind them.
func (b *blaster) lay(width int) []int {
	w := make([]int, width)
	for i := range w {
		w[i] = 2 * (b.first + i)
	}
	b.first += width
	return w
}

func (b *blaster) layInputs() int {
	bits := 0
	for _, width := range b.Inputs {
		b.inputs = append(b.inputs, b.lay(width))
		bits += width
	}
	return bits
}

func (b *blaster) layLatches() {
	for i := range b.Regs {
		b.regs = append(b.regs, b.lay(b.Regs[i].Width))
	}
	for _, m := range b.Mems {
		words := make([][]int, m.Words)
		for k := range words {
			words[k] = b.lay(m.Width)
		}
		b.mems = append(b.mems, words)
	}
}

// word gives the bits of a node.
func (b *blaster) word(x *api.Node) []int {
	var args [][]int
	for _, a := range x.Args {
		args = append(args, b.words[a])
	}
	switch x.Kind {
	case api.XNum:
		return number(x.Width, x.Num)
	case api.NIn:
		return b.inputs[x.Num]
	case api.NReg:
		return b.regs[x.Num]
	case api.NRead:
		return b.read(b.mems[x.Num], args[0])
	case api.XSlice:
		return args[0][x.Num:][:x.Width]
	case api.XExt:
		return fitted(args[0], x.Width)
	case api.XCat:
		return joined(args)
	case api.XIf:
		return b.chosen(args[0][0], args[1], args[2])
	case api.XAll:
		return []int{b.all(args[0])}
	case api.XAny:
		return []int{b.some(args[0])}
	case api.XOdd:
		return []int{b.odd(args[0])}
	case api.XNot:
		return inverted(args[0])
	}
	return b.ofBoth(x.Kind, args[0], args[1])
}
