package elab

import (
	"gatewright/api"
	"gatewright/fault"
)

// lookUnary is an operation with one operand.
func lookUnary(op int, v value) value {
	switch op {
	case api.OpNot:
		return value{v.width, func(w int) api.Exp { return node(api.XNot, w, v.at(w)) }}
	case api.OpMinus:
		return value{v.width, func(w int) api.Exp { return node(api.XSub, w, numeral(w, 0), v.at(w)) }}
	case api.OpNo:
		return fixed(1, func() api.Exp { return not(v.truth()) })
	}
	kind := api.XAll
	if op == api.OpAny {
		kind = api.XAny
	} else if op == api.OpOdd {
		kind = api.XOdd
	}
	return fixed(1, func() api.Exp { return node(kind, 1, v.alone()) })
}

// not turns a single bit round.
func not(x api.Exp) api.Exp {
	return node(api.XNot, 1, x)
}

// lookBinary is an operation with two operands.
func lookBinary(op int, x, y value) value {
	switch op {
	case api.OpMul:
		return wide(api.XMul, x, y)
	case api.OpAdd:
		return wide(api.XAdd, x, y)
	case api.OpSub:
		return wide(api.XSub, x, y)
	case api.OpAnd:
		return wide(api.XAnd, x, y)
	case api.OpXor:
		return wide(api.XXor, x, y)
	case api.OpOr:
		return wide(api.XOr, x, y)
	case api.OpShl:
		return shift(api.XShl, x, y)
	case api.OpShr:
		return shift(api.XShr, x, y)
	case api.OpBoth:
		return fixed(1, func() api.Exp { return node(api.XAnd, 1, x.truth(), y.truth()) })
	case api.OpOne:
		return fixed(1, func() api.Exp { return node(api.XOr, 1, x.truth(), y.truth()) })
	}
	return fixed(1, func() api.Exp { return comparison(op, x, y) })
}

// wide is an operation that hands its width on to both operands.
func wide(kind int, x, y value) value {
	return value{max(x.width, y.width), func(w int) api.Exp { return node(kind, w, x.at(w), y.at(w)) }}
}

// shift hands its width on to the left operand.
func shift(kind int, x, y value) value {
	return value{x.width, func(w int) api.Exp { return node(kind, w, x.at(w), y.alone()) }}
}

// comparison works both sides out at the greater width; there are but XEq and XLt to tell it by.
func comparison(op int, x, y value) api.Exp {
	w := max(x.width, y.width)
	switch op {
	case api.OpEq:
		return node(api.XEq, 1, x.at(w), y.at(w))
	case api.OpNe:
		return not(node(api.XEq, 1, x.at(w), y.at(w)))
	case api.OpLt:
		return node(api.XLt, 1, x.at(w), y.at(w))
	case api.OpGe:
		return not(node(api.XLt, 1, x.at(w), y.at(w)))
	case api.OpGt:
		return node(api.XLt, 1, y.at(w), x.at(w))
	}
	return not(node(api.XLt, 1, y.at(w), x.at(w)))
}

// lookCond hands its width on to the last two.
func lookCond(s *scope, e *api.Expr) value {
	asked := look(s, &e.Args[0])
	then := look(s, &e.Args[1])
	other := look(s, &e.Args[2])
	return value{max(then.width, other.width), func(w int) api.Exp {
		return node(api.XIf, w, asked.truth(), then.at(w), other.at(w))
	}}
}

// lookConcat is braces with one or more within.
func lookConcat(s *scope, e *api.Expr) value {
	var parts []value
	width := 0
	for i := range e.Args {
		v := look(s, &e.Args[i])
		parts = append(parts, v)
		width += v.width
	}
	mayBeWide(width, e)
	return fixed(width, func() api.Exp {
		x := api.Exp{Kind: api.XCat, Width: width}
		for _, v := range parts {
			x.Args = append(x.Args, v.alone())
		}
		return x
	})
}

// lookRepeat is braces that stand for the same bits so often.
func lookRepeat(s *scope, e *api.Expr) value {
	often := number(s, &e.Args[0])
	if often == 0 || often > api.MaxWidth {
		fault.Throw(api.FWidth, e.At)
	}
	v := look(s, &e.Args[1])
	width := int(often) * v.width
	mayBeWide(width, e)
	return fixed(width, func() api.Exp { return repeated(v, width) })
}

// repeated fills a width with the same bits again and again. They are multiplied by a one at each of their places: if they were written down so often, braces within braces would have no end.
func repeated(v value, width int) api.Exp {
	ones := uint64(0)
	for lo := 0; lo < width; lo += v.width {
		ones |= 1 << lo
	}
	return node(api.XMul, width, v.in(width), numeral(width, ones))
}

// mayBeWide tells FWidth at braces that have too many bits.
func mayBeWide(width int, e *api.Expr) {
	if width > api.MaxWidth {
		fault.Throw(api.FWidth, e.At)
	}
}
