package word

import "gatewright/api"

// nothing is the node of bits that have none.
const nothing = -1

// part is some bits of a node. Lists of parts go from the lowest bits up.
type part struct {
	node, lo, width int
}

// push puts a part behind others; bits that go on where the last ones end become one part with them.
func push(all []part, p part) []part {
	if p.width == 0 {
		return all
	}
	if len(all) > 0 {
		last := &all[len(all)-1]
		if last.node == p.node && (p.node == nothing || last.lo+last.width == p.lo) {
			last.width += p.width
			return all
		}
	}
	return append(all, p)
}

func pushAll(all, more []part) []part {
	for _, p := range more {
		all = push(all, p)
	}
	return all
}

// cut gives some of the bits of a list, as a new list.
func cut(all []part, lo, width int) []part {
	var some []part
	at := 0
	for _, p := range all {
		from, to := max(lo, at), min(lo+width, at+p.width)
		if from < to {
			some = push(some, part{p.node, p.lo + from - at, to - from})
		}
		at += p.width
	}
	return some
}

// with gives a list in which some bits are other ones.
func with(all []part, lo int, some []part) []part {
	width := widthOf(some)
	list := cut(all, 0, lo)
	list = pushAll(list, some)
	return pushAll(list, cut(all, lo+width, widthOf(all)-lo-width))
}

func widthOf(all []part) int {
	width := 0
	for _, p := range all {
		width += p.width
	}
	return width
}

// filled gives a list in which the bits that have no node are those of another list.
func filled(all, from []part) []part {
	var list []part
	at := 0
	for _, p := range all {
		if p.node == nothing {
			list = pushAll(list, cut(from, at, p.width))
		} else {
			list = push(list, p)
		}
		at += p.width
	}
	return list
}

// parts tells what a node is made of: no part of it is made of others.
func (b *book) parts(at int) []part {
	return b.resolve(nil, part{at, 0, b.width(at)})
}

// resolve puts the parts of which a part is made behind others. Bits without a node are zeros.
func (b *book) resolve(all []part, p part) []part {
	if p.node == nothing {
		return b.pushNumber(all, p.width, 0)
	}
	x := &b.nodes[p.node]
	switch x.Kind {
	case api.XNum:
		return b.pushNumber(all, p.width, x.Num>>p.lo&mask(p.width))
	case api.XSlice:
		return push(all, part{x.Args[0], int(x.Num) + p.lo, p.width})
	case api.XCat:
		at := 0
		for i := len(x.Args) - 1; i >= 0; i-- {
			a := x.Args[i]
			from, to := max(p.lo, at), min(p.lo+p.width, at+b.width(a))
			if from < to {
				all = b.resolve(all, part{a, from - at, to - from})
			}
			at += b.width(a)
		}
		return all
	}
	return push(all, p)
}

// pushNumber puts a number behind parts; if there is a number at their end it becomes one with that.
func (b *book) pushNumber(all []part, width int, num uint64) []part {
	if len(all) > 0 {
		if last := all[len(all)-1]; b.isNumber(last.node) {
			num = num<<last.width | b.values[last.node]
			width += last.width
			all = all[:len(all)-1]
		}
	}
	return append(all, part{b.number(width, num), 0, width})
}

// join gives the node that has these bits.
func (b *book) join(all []part) int {
	var list []part
	for _, p := range all {
		list = b.resolve(list, p)
	}
	if len(list) == 1 {
		return b.single(list[0])
	}
	args := make([]int, 0, len(list))
	width := 0
	for i := len(list) - 1; i >= 0; i-- {
		args = append(args, b.single(list[i]))
		width += list[i].width
	}
	return b.node(api.XCat, width, 0, args...)
}

// single gives the node that has the bits of a part that is made of no others.
func (b *book) single(p part) int {
	if p.width == b.width(p.node) {
		return p.node
	}
	return b.node(api.XSlice, p.width, uint64(p.lo), p.node)
}
