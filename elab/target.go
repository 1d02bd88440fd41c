package elab

import (
	"gatewright/api"
	"gatewright/fault"
)

// How a target is set.
const (
	byAssign = iota // by assign, or by a bound output
	atOnce          // in a process, by =
	later           // in a process, by <=
)

// target tells what is set, the highest bits first.
func target(s *scope, e *api.Expr, how int) []api.Dest {
	switch e.Kind {
	case api.EConcat:
		var all []api.Dest
		for i := range e.Args {
			all = append(all, target(s, &e.Args[i], how)...)
		}
		mayBeWide(widthOf(all), e)
		return all
	case api.EName, api.EIndex, api.EPart:
		return []api.Dest{placeTarget(s, e, how)}
	}
	fault.Throw(api.FKind, e.At)
	return nil
}

// widthOf tells how many bits targets have.
func widthOf(to []api.Dest) int {
	width := 0
	for i := range to {
		width += to[i].Width
	}
	return width
}

// placeTarget tells what a name, a bit, a part, a word sets.
func placeTarget(s *scope, e *api.Expr, how int) api.Dest {
	t := s.need(e)
	if !maySet(t, how) || !fitsBrackets(t, e) {
		fault.Throw(api.FKind, e.At)
	}
	switch e.Kind {
	case api.EName:
		return api.Dest{Net: t.net, Width: t.width}
	case api.EPart:
		lo, width := partOf(s, e, t)
		return api.Dest{Net: t.net, Lo: lo, Width: width}
	}
	return indexTarget(t, e, indexOf(s, e, t), how)
}

// maySet asks whether a thing can be set so.
func maySet(t thing, how int) bool {
	isNet := t.kind == aNet || t.kind == aMemory
	return isNet && !t.input && t.reg == (how != byAssign)
}

// indexTarget tells what a bit or a word sets.
func indexTarget(t thing, e *api.Expr, i index, how int) api.Dest {
	if t.kind == aNet && i.known {
		return api.Dest{Net: t.net, Lo: i.number, Width: 1}
	}
	if how == byAssign || t.kind == aMemory && how != later {
		fault.Throw(api.FKind, e.At)
	}
	width := 1
	if t.kind == aMemory {
		width = t.width
	}
	return api.Dest{Net: t.net, Width: width, Dyn: true, Index: i.alone()}
}
