package word

import (
	"slices"

	"gatewright/api"
)

// Bits become what they are by operations that work bit by bit, or none. Those for which it is the same operations, their shape, can be worked out side by side.
const (
	shapeNone  = 0 // too much to work out
	shapeLeaf  = 1 // a bit that is there
	shapeOwn   = 2 // the bit itself
	firstShape = 3
)

// mostWorked is how many nodes a shape may have.
const mostWorked = 16

// findMoves looks at what each bit of a register becomes.
func (d *doubling) findMoves() {
	nodes := make([]int, len(d.old.Regs))
	for i := range d.old.Nodes {
		if x := &d.old.Nodes[i]; x.Kind == api.NReg {
			nodes[x.Num] = i
		}
	}
	for i, r := range d.old.Regs {
		d.froms = append(d.froms, len(d.bits))
		for at := range r.Width {
			d.bits = append(d.bits, move{own: bit{nodes[i], at}})
		}
	}
	for i, r := range d.old.Regs {
		for at := range r.Width {
			m := &d.bits[d.froms[i]+at]
			m.next = d.base(r.Next, at)
			m.isStill = m.next == m.own
		}
	}
}

func (d *doubling) isRegister(b bit) bool {
	return b.node != nothing && d.old.Nodes[b.node].Kind == api.NReg
}

// place tells the number of a register's bit.
func (d *doubling) place(b bit) int {
	return d.froms[d.old.Nodes[b.node].Num] + b.at
}

// isWorked asks whether a bit is the outcome of an operation that works bit by bit, and is there for one reader's sake.
func (d *doubling) isWorked(b bit) bool {
	if b.node == nothing || d.isCut[b.node] {
		return false
	}
	switch d.old.Nodes[b.node].Kind {
	case api.XNot, api.XAnd, api.XOr, api.XXor, api.XIf:
		return true
	}
	return false
}

// operands tells the bits of which a bit is worked out, and the node that chooses among them; nothing, if none does.
func (d *doubling) operands(b bit) (args []bit, asked int) {
	x := &d.old.Nodes[b.node]
	list, asked := x.Args, nothing
	if x.Kind == api.XIf {
		list, asked = x.Args[1:], x.Args[0]
	}
	for _, a := range list {
		args = append(args, d.base(a, b.at))
	}
	return args, asked
}

// chooseDoubled finds the shapes of bits, and chooses which may have doubles: where a bit comes along, at every other place. The first is where it comes from no register: what is cut out there is cut out anyhow.
func (d *doubling) chooseDoubled() {
	sources := make([]int, len(d.bits))
	for i := range d.bits {
		sources[i] = d.source(&d.bits[i])
	}
	isKnown := make([]bool, len(d.bits))
	for i := range d.bits {
		var way []int
		for at := i; at != nothing && !isKnown[at]; at = sources[at] {
			isKnown[at] = true
			way = append(way, at)
		}
		for _, at := range slices.Backward(way) {
			from := sources[at]
			d.bits[at].isDoubled = d.bits[at].shape != shapeNone && (from == nothing || !d.bits[from].isDoubled)
		}
	}
}

// source finds a bit's shape, and tells the first bit of a register of which it is worked out.
func (d *doubling) source(m *move) int {
	left := mostWorked
	var leaves []bit
	m.shape = d.shape(m.next, m.own, &left, &leaves)
	for _, l := range leaves {
		if d.isRegister(l) {
			return d.place(l)
		}
	}
	return nothing
}

// shape tells how a bit is worked out, and the bits that are there.
func (d *doubling) shape(b, own bit, left *int, leaves *[]bit) int {
	if b == own {
		return shapeOwn
	}
	*left--
	if *left < 0 {
		return shapeNone
	}
	if !d.isWorked(b) {
		*leaves = append(*leaves, b)
		return shapeLeaf
	}
	args, asked := d.operands(b)
	key := [4]int{d.old.Nodes[b.node].Kind, asked}
	cost := 1
	for i, a := range args {
		s := d.shape(a, own, left, leaves)
		if s == shapeNone {
			return shapeNone
		}
		key[2+i] = s
		cost += d.costs[s]
	}
	if d.shapes[key] == 0 {
		d.shapes[key] = len(d.costs)
		d.costs = append(d.costs, cost)
	}
	return d.shapes[key]
}

// become gives the new node that has bits which are worked out side by side for a double.
func (d *doubling) become(bits []bit, z *double) int {
	first, ones, isOwn := nothing, uint64(0), true
	for i, b := range bits {
		switch {
		case z.own[i].node == nothing:
			ones |= uint64(b.at) << i
		case first == nothing:
			first = i
		}
		isOwn = isOwn && (z.own[i].node == nothing || b == z.own[i])
	}
	if isOwn {
		return d.operation(api.XOr, len(bits), z.node, d.number(len(bits), ones))
	}
	if !d.isWorked(bits[first]) {
		return d.gathered(bits, false)
	}
	x := &d.old.Nodes[bits[first].node]
	_, asked := d.operands(bits[first])
	var nodes []int
	if asked != nothing {
		nodes = append(nodes, d.copies[asked])
	}
	for _, list := range d.lists(bits, z.own, x.Kind) {
		nodes = append(nodes, d.become(list, z))
	}
	return d.operation(x.Kind, len(bits), nodes...)
}

// lists tells the operands of bits. Where there is no bit, the outcome of numbers is the number that stands there.
func (d *doubling) lists(bits, own []bit, kind int) [][]bit {
	lists := make([][]bit, 2)
	if kind == api.XNot {
		lists = lists[:1]
	}
	for i, b := range bits {
		if own[i].node != nothing {
			args, _ := d.operands(b)
			for k := range lists {
				lists[k] = append(lists[k], args[k])
			}
			continue
		}
		for k := range lists {
			number := bit{nothing, b.at}
			switch {
			case kind == api.XNot:
				number.at = 1 - b.at
			case kind == api.XXor && k == 1:
				number.at = 0
			}
			lists[k] = append(lists[k], number)
		}
	}
	return lists
}
