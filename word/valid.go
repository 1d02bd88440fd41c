package word

import "gatewright/api"

// Valid asks whether a netlist is one.
func Valid(n api.Netlist) bool {
	c := checker{&n}
	return holds(len(n.Inputs), func(i int) bool { return isWidth(n.Inputs[i]) }) &&
		holds(len(n.Mems), c.memory) &&
		holds(len(n.Nodes), c.node) &&
		holds(len(n.Regs), c.register) &&
		holds(len(n.Writes), c.write) &&
		holds(len(n.Outputs), func(i int) bool { return c.isNode(n.Outputs[i]) })
}

// checker looks at a netlist, piece by piece.
type checker struct {
	*api.Netlist
}

func holds(count int, of func(i int) bool) bool {
	for i := range count {
		if !of(i) {
			return false
		}
	}
	return true
}

func isWidth(w int) bool {
	return w >= 1 && w <= api.MaxWidth
}

func (c checker) isNode(i int) bool {
	return i >= 0 && i < len(c.Nodes)
}

// hasWidth asks whether there is such a node, of that width.
func (c checker) hasWidth(i, width int) bool {
	return c.isNode(i) && c.Nodes[i].Width == width
}

func (c checker) memory(i int) bool {
	m := &c.Mems[i]
	return isWidth(m.Width) && m.Words >= 1 && m.Words <= api.MaxWords
}

func (c checker) register(i int) bool {
	r := &c.Regs[i]
	return isWidth(r.Width) && r.Init <= mask(r.Width) && c.hasWidth(r.Next, r.Width)
}

func (c checker) write(i int) bool {
	w := &c.Writes[i]
	isMemory := w.Mem >= 0 && w.Mem < len(c.Mems)
	return isMemory && c.hasWidth(w.When, 1) && c.isNode(w.Addr) && c.hasWidth(w.Data, c.Mems[w.Mem].Width)
}

func (c checker) node(i int) bool {
	x := &c.Nodes[i]
	if !isWidth(x.Width) || !mayHave(x.Kind, len(x.Args)) {
		return false
	}
	for _, a := range x.Args {
		if a < 0 || a >= i {
			return false
		}
	}
	return c.numFits(x) && c.widthsFit(x)
}

// mayHave asks whether a node of a kind may have so many operands.
func mayHave(kind, operands int) bool {
	switch kind {
	case api.XNum, api.NIn, api.NReg:
		return operands == 0
	case api.XSlice, api.XExt, api.XNot, api.XAll, api.XAny, api.XOdd, api.NRead:
		return operands == 1
	case api.XAnd, api.XOr, api.XXor, api.XAdd, api.XSub, api.XMul, api.XShl, api.XShr, api.XEq, api.XLt:
		return operands == 2
	case api.XIf:
		return operands == 3
	case api.XCat:
		return operands >= 1
	}
	return false
}

// numFits looks at what stands in Num.
func (c checker) numFits(x *api.Node) bool {
	switch x.Kind {
	case api.XNum:
		return x.Num <= mask(x.Width)
	case api.XSlice:
		all := c.Nodes[x.Args[0]].Width
		return x.Width <= all && x.Num <= uint64(all-x.Width)
	case api.NIn:
		return x.Num < uint64(len(c.Inputs)) && c.Inputs[x.Num] == x.Width
	case api.NReg:
		return x.Num < uint64(len(c.Regs)) && c.Regs[x.Num].Width == x.Width
	case api.NRead:
		return x.Num < uint64(len(c.Mems)) && c.Mems[x.Num].Width == x.Width
	}
	return x.Num == 0
}

// widthsFit looks at the widths of a node and its operands, of which there are as many as its kind has.
func (c checker) widthsFit(x *api.Node) bool {
	width := func(k int) int { return c.Nodes[x.Args[k]].Width }
	switch x.Kind {
	case api.XNot, api.XShl, api.XShr:
		return width(0) == x.Width
	case api.XAnd, api.XOr, api.XXor, api.XAdd, api.XSub, api.XMul:
		return width(0) == x.Width && width(1) == x.Width
	case api.XAll, api.XAny, api.XOdd:
		return x.Width == 1
	case api.XEq, api.XLt:
		return x.Width == 1 && width(0) == width(1)
	case api.XIf:
		return width(0) == 1 && width(1) == x.Width && width(2) == x.Width
	case api.XCat:
		sum := 0
		for k := range x.Args {
			sum += width(k)
		}
		return sum == x.Width
	}
	return true
}
