package elab

import (
	"gatewright/api"
	"gatewright/fault"
)

// value is an expression that has been looked at: its width by itself, and how it is worked out at that width or a greater one. Each time at gives new memory.
type value struct {
	width int
	at    func(width int) api.Exp
}

// alone works it out at its own width.
func (v value) alone() api.Exp {
	return v.at(v.width)
}

// in works out what is stored in so many bits.
func (v value) in(width int) api.Exp {
	return fit(v.at(max(width, v.width)), width)
}

// truth asks whether it is not 0.
func (v value) truth() api.Exp {
	if v.width == 1 {
		return v.alone()
	}
	return node(api.XAny, 1, v.alone())
}

func node(kind, width int, args ...api.Exp) api.Exp {
	return api.Exp{Kind: kind, Width: width, Args: args}
}

func numeral(width int, num uint64) api.Exp {
	return api.Exp{Kind: api.XNum, Width: width, Num: num}
}

// fit cuts off, or fills up with zeros.
func fit(x api.Exp, width int) api.Exp {
	if x.Width == width {
		return x
	}
	return node(api.XExt, width, x)
}

// fixed is a value that is worked out at its own width, wherever it stands.
func fixed(width int, alone func() api.Exp) value {
	return value{width, func(w int) api.Exp { return fit(alone(), w) }}
}

// numberValue is a number of a width.
func numberValue(width int, num uint64) value {
	return value{width, func(w int) api.Exp { return numeral(w, num) }}
}

// netValue is all of a net.
func netValue(t thing) value {
	return fixed(t.width, func() api.Exp { return api.Exp{Kind: api.XNet, Width: t.width, Net: t.net} })
}

// look finds the faults of an expression, and its width.
func look(s *scope, e *api.Expr) value {
	switch e.Kind {
	case api.ENum:
		if e.Width == 0 {
			return numberValue(api.MaxWidth, e.Num)
		}
		return numberValue(e.Width, e.Num)
	case api.EName, api.EIndex, api.EPart:
		return lookPlace(s, e)
	case api.EUnary:
		return lookUnary(e.Op, look(s, &e.Args[0]))
	case api.EBinary:
		left := look(s, &e.Args[0])
		return lookBinary(e.Op, left, look(s, &e.Args[1]))
	case api.ECond:
		return lookCond(s, e)
	case api.EConcat:
		return lookConcat(s, e)
	}
	return lookRepeat(s, e)
}

// lookPlace looks at a name, a bit, a part, a word.
func lookPlace(s *scope, e *api.Expr) value {
	t := s.need(e)
	if !fitsBrackets(t, e) {
		fault.Throw(api.FKind, e.At)
	}
	switch {
	case t.kind == aNumber:
		return numberValue(api.MaxWidth, uint64(t.number))
	case e.Kind == api.EName:
		return netValue(t)
	case e.Kind == api.EPart:
		lo, width := partOf(s, e, t)
		return sliceValue(t, lo, width)
	}
	i := indexOf(s, e, t)
	switch {
	case t.kind == aMemory:
		return pickValue(api.XWord, t.width, t, i.value)
	case i.known:
		return sliceValue(t, i.number, 1)
	}
	return pickValue(api.XBit, 1, t, i.value)
}

// fitsBrackets asks whether a thing may stand with the brackets that stand behind it.
func fitsBrackets(t thing, e *api.Expr) bool {
	switch t.kind {
	case aNumber:
		return e.Kind == api.EName
	case aMemory:
		return e.Kind == api.EIndex
	}
	return t.kind == aNet
}

// sliceValue is a part of a net.
func sliceValue(t thing, lo, width int) value {
	net := netValue(t)
	return fixed(width, func() api.Exp {
		x := node(api.XSlice, width, net.alone())
		x.Num = uint64(lo)
		return x
	})
}

// pickValue is the bit or the word that an index tells.
func pickValue(kind, width int, t thing, index value) value {
	return fixed(width, func() api.Exp {
		x := node(kind, width, index.alone())
		x.Net = t.net
		return x
	})
}

// partOf tells the lowest bit of a part, and how many it has.
func partOf(s *scope, e *api.Expr, t thing) (int, int) {
	high, low := &e.Args[0], &e.Args[1]
	hi, lo := number(s, high), number(s, low)
	if int64(hi) >= int64(t.width) {
		fault.Throw(api.FRange, high.At)
	}
	if lo > hi {
		fault.Throw(api.FRange, low.At)
	}
	return int(lo), int(hi-lo) + 1
}

// index is what stands in the brackets of a bit or a word.
type index struct {
	value
	known  bool
	number int
}

// indexOf looks at what stands in the brackets of a bit or a word.
func indexOf(s *scope, e *api.Expr, t thing) index {
	inner := &e.Args[0]
	n, why := known(s, inner)
	if why != nil {
		return index{value: look(s, inner)}
	}
	there := t.width
	if t.kind == aMemory {
		there = t.words
	}
	if int64(n) >= int64(there) {
		fault.Throw(api.FRange, inner.At)
	}
	return index{numberValue(api.MaxWidth, uint64(n)), true, int(n)}
}
