package aig

import "gatewright/api"

func number(width int, num uint64) []int {
	w := make([]int, width)
	for i := range w {
		w[i] = int(num >> i & 1)
	}
	return w
}

// fitted cuts off, or fills up with zeros.
func fitted(w []int, width int) []int {
	all := make([]int, width)
	copy(all, w)
	return all
}

// joined is words side by side, the highest bits first.
func joined(words [][]int) []int {
	var all []int
	for i := len(words) - 1; i >= 0; i-- {
		all = append(all, words[i]...)
	}
	return all
}

func inverted(w []int) []int {
	all := make([]int, len(w))
	for i, literal := range w {
		all[i] = opposite(literal)
	}
	return all
}

// each works bit by bit.
func each(left, right []int, join func(one, other int) int) []int {
	all := make([]int, len(left))
	for i := range left {
		all[i] = join(left[i], right[i])
	}
	return all
}

// masked is a word, or 0, if a literal is false.
func (g *gates) masked(w []int, literal int) []int {
	all := make([]int, len(w))
	for i := range w {
		all[i] = g.and(w[i], literal)
	}
	return all
}

func (g *gates) chosen(asked int, then, other []int) []int {
	return each(then, other, func(t, o int) int { return g.choose(asked, t, o) })
}

// ofBoth is an operation with two operands.
func (g *gates) ofBoth(kind int, left, right []int) []int {
	switch kind {
	case api.XAnd:
		return each(left, right, g.and)
	case api.XOr:
		return each(left, right, g.or)
	case api.XXor:
		return each(left, right, g.xor)
	case api.XAdd:
		return g.sum(left, right, no)
	case api.XSub:
		return g.sum(left, inverted(right), yes)
	case api.XMul:
		return g.product(left, right)
	case api.XShl:
		return g.shifted(left, right, 1)
	case api.XShr:
		return g.shifted(left, right, -1)
	case api.XEq:
		return []int{opposite(g.some(each(left, right, g.xor)))}
	}
	return []int{g.less(left, right)}
}

// sum adds a carry, too. The gates of each xor serve the carry as well.
func (g *gates) sum(left, right []int, carry int) []int {
	all := make([]int, len(left))
	for i := range left {
		half := g.xor(left[i], right[i])
		all[i] = g.xor(half, carry)
		carry = g.or(g.and(left[i], right[i]), g.and(half, carry))
	}
	return all
}

// product adds up, for each bit of the right word, the left one at its place.
func (g *gates) product(left, right []int) []int {
	width := len(left)
	all := number(width, 0)
	for i, bit := range right {
		copy(all[i:], g.sum(all[i:], g.masked(left[:width-i], bit), no))
	}
	return all
}

// less goes from the lowest bit up: the highest one in which both differ tells.
func (g *gates) less(left, right []int) int {
	is := no
	for i := range left {
		below := g.and(opposite(left[i]), right[i])
		above := g.and(left[i], opposite(right[i]))
		is = g.or(below, g.and(opposite(above), is))
	}
	return is
}

// shifted moves a word up (1) or down (-1), by a power of two after the other; a bit of the count that alone moves it out leaves nothing.
func (g *gates) shifted(w, count []int, way int) []int {
	all := w
	for i, bit := range count {
		by := 1 << i
		if by >= len(w) {
			return g.masked(all, opposite(g.some(count[i:])))
		}
		all = g.chosen(bit, moved(all, by*way), all)
	}
	return all
}

// moved is a word whose bits stand so much higher.
func moved(w []int, by int) []int {
	all := make([]int, len(w))
	for i := range all {
		if from := i - by; from >= 0 && from < len(w) {
			all[i] = w[from]
		}
	}
	return all
}
