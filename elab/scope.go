package elab

import (
	"gatewright/api"
	"gatewright/fault"
)

// The kinds of things that have names.
const (
	aNumber = iota + 1 // a parameter, a localparam, the name of a loop
	aNet
	aMemory
	aMark // a use, a part
)

// thing is what a name stands for.
type thing struct {
	kind       int
	number     uint32
	net        int
	width      int
	words      int
	input, reg bool
}

// scope has the names of a module or a part; what it has not, an outer one may have.
type scope struct {
	names map[string]thing
	outer *scope
}

func newScope(outer *scope) *scope {
	return &scope{map[string]thing{}, outer}
}

// withNumber is a scope within s, in which a name is known as a number.
func (s *scope) withNumber(name string, number uint32) *scope {
	inner := newScope(s)
	inner.names[name] = thing{kind: aNumber, number: number}
	return inner
}

// put makes a name known; at is what declares it.
func (s *scope) put(name string, t thing, at int) {
	if _, there := s.names[name]; there {
		fault.Throw(api.FTwice, at)
	}
	s.names[name] = t
}

// find tells what a name stands for.
func (s *scope) find(name string) (thing, bool) {
	for ; s != nil; s = s.outer {
		if t, there := s.names[name]; there {
			return t, true
		}
	}
	return thing{}, false
}

// need tells what the name that an expression begins with stands for.
func (s *scope) need(e *api.Expr) thing {
	t, there := s.find(e.Name)
	if !there {
		fault.Throw(api.FName, e.At)
	}
	return t
}
