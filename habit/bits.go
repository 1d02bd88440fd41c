package habit

import "gatewright/api"

// bits is a set of bits: of each net that has some in it, which ones.
type bits map[int]uint64

// bitsOf tells all bits of a net. A memory counts as one bit: of its bits either all are in a set or none.
func bitsOf(n *api.Net) uint64 {
	return mask(n.Width)
}

// mask has a one at each bit of a width.
func mask(width int) uint64 {
	return 1<<width - 1
}

func (b bits) add(net int, some uint64) {
	if some != 0 {
		b[net] |= some
	}
}

func (b bits) drop(net int, some uint64) {
	if b[net]&^some == 0 {
		delete(b, net)
	} else {
		b[net] &^= some
	}
}

// common keeps what both sets have, and gives up the sets themselves. It goes through the smaller one: a long row of arms would take too long otherwise.
func common(a, b bits) bits {
	if len(b) < len(a) {
		a, b = b, a
	}
	for net, some := range a {
		a.drop(net, some&^b[net])
	}
	return a
}

// group is a set of processes, a bit for each.
type group []uint64

func groupOf(most int) group {
	return make(group, (most+63)/64)
}

func (g group) has(p int) bool {
	return g[p/64]>>(p%64)&1 == 1
}

func (g group) put(p int) {
	g[p/64] |= 1 << (p % 64)
}

func (g group) join(other group) {
	for i := range g {
		g[i] |= other[i]
	}
}
