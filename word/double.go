package word

import (
	"slices"

	"gatewright/api"
)

// A design may move bits of its registers about, each anywhere else: then each bit must be cut out of the word in which it stands. If there are too many nodes so, the bits that are read beside each other, but do not stand so, get doubles: registers in which they stand as they are read, and which become what the bits become. Nothing need be cut out of these. A double that becomes bits which themselves have doubles would gain nothing: so bits that move on and on have doubles at every other place alone.

// bit is a bit of a node of the netlist that is made anew; or, of no node, the number 0 or 1.
type bit struct {
	node, at int
}

// doubling makes a netlist anew, with doubles.
type doubling struct {
	*book
	old     *api.Netlist
	copies  []int // of each old node, the new one
	isCut   []bool
	froms   []int // of each register, the number of its first bit among those of all registers
	bits    []move
	shapes  map[[4]int]int // how what registers become is worked out
	costs   []int          // of each shape, about how many nodes that needs
	netlist api.Netlist
	doubles []double
}

// move is what is known of a register's bit.
type move struct {
	own, next bit
	shape     int
	isStill   bool // it never changes
	isDoubled bool
}

// double is a new register that is worth what bits of old ones are.
type double struct {
	node int
	own  []bit // zeros where it has no bit
	init uint64
}

// doubled gives a netlist that shows the same, with doubles where they are worth while.
func doubled(old *api.Netlist) api.Netlist {
	d := &doubling{book: newBook(), old: old, shapes: make(map[[4]int]int), costs: make([]int, firstShape)}
	d.costs[shapeLeaf] = 1
	d.netlist.Inputs = slices.Clone(old.Inputs)
	d.netlist.Mems = slices.Clone(old.Mems)
	d.findCuts()
	d.findMoves()
	d.chooseDoubled()
	for i := range old.Nodes {
		d.copies = append(d.copies, d.copied(i))
	}
	d.setRegisters()
	for _, w := range old.Writes {
		d.netlist.Writes = append(d.netlist.Writes, api.Write{Mem: w.Mem, When: d.copies[w.When], Addr: d.copies[w.Addr], Data: d.copies[w.Data]})
	}
	for _, o := range old.Outputs {
		d.netlist.Outputs = append(d.netlist.Outputs, d.copies[o])
	}
	d.netlist.Nodes = d.book.nodes
	return needed(&d.netlist)
}

// findCuts finds the nodes of which something is cut out, or that stand beside others.
func (d *doubling) findCuts() {
	d.isCut = make([]bool, len(d.old.Nodes))
	for i := range d.old.Nodes {
		x := &d.old.Nodes[i]
		if x.Kind != api.XSlice && x.Kind != api.XCat {
			continue
		}
		for _, a := range x.Args {
			d.isCut[a] = true
		}
	}
}

// copied gives the new node of an old one.
func (d *doubling) copied(at int) int {
	x := &d.old.Nodes[at]
	var args []int
	for _, a := range x.Args {
		args = append(args, d.copies[a])
	}
	switch x.Kind {
	case api.XNum, api.NIn, api.NReg, api.NRead:
		return d.node(x.Kind, x.Width, x.Num, args...)
	case api.XSlice, api.XCat:
		bits := make([]bit, x.Width)
		for i := range bits {
			bits[i] = d.base(at, i)
		}
		return d.gathered(bits, true)
	}
	return d.operation(x.Kind, x.Width, args...)
}

// base tells the bit of which a bit of an old node is a copy.
func (d *doubling) base(node, at int) bit {
	for {
		x := &d.old.Nodes[node]
		switch x.Kind {
		case api.XNum:
			return bit{nothing, int(x.Num >> at & 1)}
		case api.XSlice:
			node, at = x.Args[0], at+int(x.Num)
		case api.XCat:
			k := len(x.Args) - 1
			for ; at >= d.old.Nodes[x.Args[k]].Width; k-- {
				at -= d.old.Nodes[x.Args[k]].Width
			}
			node = x.Args[k]
		default:
			b := bit{node, at}
			if d.isRegister(b) && d.bits[d.place(b)].isStill {
				return bit{nothing, int(d.old.Regs[x.Num].Init >> at & 1)}
			}
			return b
		}
	}
}

// gathered gives the new node that has these bits, where they may with doubles.
func (d *doubling) gathered(bits []bit, mayDouble bool) int {
	rest := slices.Clone(bits)
	node := d.number(len(bits), 0)
	if mayDouble {
		for _, shape := range d.shapesOf(bits) {
			some, others := d.split(rest, shape)
			if d.cuts(rest)-d.cuts(others) > d.costs[shape]+2 {
				node = d.operation(api.XOr, len(bits), node, d.double(some))
				rest = others
			}
		}
	}
	var all []part
	for _, b := range rest {
		if b.node == nothing {
			all = append(all, part{d.number(1, uint64(b.at)), 0, 1})
		} else {
			all = push(all, part{d.copies[b.node], b.at, 1})
		}
	}
	return d.operation(api.XOr, len(bits), node, d.join(all))
}

// cuts tells how often something must be cut out to have bits beside each other.
func (d *doubling) cuts(bits []bit) int {
	n := 0
	for i, b := range bits {
		isOn := i > 0 && bits[i-1] == bit{b.node, b.at - 1}
		if b.node != nothing && !isOn && d.old.Nodes[b.node].Width > 1 {
			n++
		}
	}
	return n
}

// shapesOf tells the shapes of the bits that may have doubles, in order.
func (d *doubling) shapesOf(bits []bit) []int {
	var all []int
	for _, b := range bits {
		if shape := d.shapeToDouble(b); shape != shapeNone && !slices.Contains(all, shape) {
			all = append(all, shape)
		}
	}
	return all
}

// shapeToDouble tells the shape of a bit that may have a double.
func (d *doubling) shapeToDouble(b bit) int {
	if d.isRegister(b) && d.bits[d.place(b)].isDoubled {
		return d.bits[d.place(b)].shape
	}
	return shapeNone
}

// split gives the bits that may have doubles and have a shape, and all others; each with zeros where the other ones are.
func (d *doubling) split(bits []bit, shape int) (some, others []bit) {
	zero := bit{nothing, 0}
	for _, b := range bits {
		if d.shapeToDouble(b) == shape {
			some, others = append(some, b), append(others, zero)
		} else {
			some, others = append(some, zero), append(others, b)
		}
	}
	return some, others
}

// double gives a new register that is worth what bits of old ones are.
func (d *doubling) double(own []bit) int {
	z := double{own: own}
	for i, b := range own {
		if b.node != nothing {
			z.init |= d.old.Regs[d.old.Nodes[b.node].Num].Init >> b.at & 1 << i
		}
	}
	z.node = d.node(api.NReg, len(own), uint64(len(d.old.Regs)+len(d.doubles)))
	d.doubles = append(d.doubles, z)
	return z.node
}

// setRegisters tells what the registers become.
func (d *doubling) setRegisters() {
	for _, r := range d.old.Regs {
		d.netlist.Regs = append(d.netlist.Regs, api.Reg{Width: r.Width, Init: r.Init, Next: d.copies[r.Next]})
	}
	for i := range d.doubles {
		z := &d.doubles[i]
		next := slices.Clone(z.own)
		for i, b := range z.own {
			if b.node != nothing {
				next[i] = d.bits[d.place(b)].next
			}
		}
		d.netlist.Regs = append(d.netlist.Regs, api.Reg{Width: len(z.own), Init: z.init, Next: d.become(next, z)})
	}
}
