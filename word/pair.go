package word

import "gatewright/api"

// pair is an operation with two operands, of which not both are numbers.
func (b *book) pair(kind, width, left, right int) int {
	turns := kind != api.XSub && kind != api.XLt
	if turns && (b.isNumber(left) || !b.isNumber(right) && right < left) {
		left, right = right, left
	}
	if left == right {
		if at, simpler := b.alike(kind, left); simpler {
			return at
		}
	}
	if b.isNumber(right) {
		if at, simpler := b.withNumber(kind, left, right); simpler {
			return at
		}
	}
	return b.node(kind, width, 0, left, right)
}

// alike is what comes of an operation with the same operand twice, where that is simpler.
func (b *book) alike(kind, at int) (int, bool) {
	switch kind {
	case api.XAnd, api.XOr:
		return at, true
	case api.XXor, api.XSub:
		return b.number(b.width(at), 0), true
	case api.XEq:
		return b.number(1, 1), true
	case api.XLt:
		return b.number(1, 0), true
	}
	return 0, false
}

// withNumber is what comes of an operation whose right operand is a number, where that is simpler.
func (b *book) withNumber(kind, left, right int) (int, bool) {
	isZero, isOnes := b.is(right, 0), b.is(right, mask(b.width(right)))
	switch {
	case kind == api.XAnd && isOnes, kind == api.XOr && isZero, kind == api.XXor && isZero,
		kind == api.XAdd && isZero, kind == api.XSub && isZero, kind == api.XMul && b.is(right, 1):
		return left, true
	case kind == api.XAnd && isZero, kind == api.XOr && isOnes, kind == api.XMul && isZero:
		return right, true
	case kind == api.XXor && isOnes:
		return b.not(left), true
	case kind == api.XLt && isZero:
		return b.number(1, 0), true
	case kind == api.XEq && b.width(left) == 1 && isOnes:
		return left, true
	case kind == api.XEq && b.width(left) == 1:
		return b.not(left), true
	case kind == api.XMul:
		return b.copies(left, b.values[right])
	}
	return 0, false
}

// copies is a product in which a word stands side by side with itself: each one of the number is at least as far from the next as the word has bits. Layer 2 writes the same bits again and again so.
func (b *book) copies(at int, ones uint64) (int, bool) {
	width := b.width(at)
	bits := b.parts(at)
	significant := width
	if top := bits[len(bits)-1]; b.is(top.node, 0) {
		significant -= top.width
	}
	var all []part
	filled := 0
	for lo := range width {
		if ones>>lo&1 == 0 {
			continue
		}
		if lo < filled {
			return 0, false
		}
		all = push(all, part{nothing, 0, lo - filled})
		filled = min(lo+significant, width)
		all = pushAll(all, cut(bits, 0, filled-lo))
	}
	all = push(all, part{nothing, 0, width - filled})
	return b.join(all), true
}
