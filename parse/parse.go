// Package parse: texts and modules: see doc/01-parse.md.
package parse

import (
	"gatewright/api"
	"gatewright/fault"
)

// Text reads the modules of a text.
func Text(text string) (ms []api.Module, err error) {
	if len(text) > api.MaxText {
		return nil, &api.Fault{Code: api.FLong}
	}
	defer func() {
		if thrown := recover(); thrown != nil {
			ms, err = nil, fault.Of(thrown, api.FText)
		}
	}()
	r := newReader(text)
	for r.now.kind != tokenEnd {
		ms = append(ms, r.module())
	}
	return ms, nil
}

// Print writes modules that Text has given.
func Print(ms []api.Module) (text string) {
	defer func() {
		if recover() != nil { // trees that Text does not give have no text
			text = ""
		}
	}()
	var p printer
	for _, m := range ms {
		p.module(m)
	}
	return p.String()
}
