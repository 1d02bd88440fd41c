// Package fault: faults that a layer throws within itself, and tells at its edge.
package fault

import (
	"errors"

	"gatewright/api"
)

// Throw leaves off whatever is being done, up to where the layer recovers.
func Throw(code, at int) {
	panic(&api.Fault{Code: code, At: at})
}

// Of tells the fault that was thrown. What else was thrown comes of what the layer may not be handed: it gets the code that is given.
func Of(thrown any, code int) error {
	if err, ok := thrown.(error); ok {
		var f *api.Fault
		if errors.As(err, &f) {
			return f
		}
	}
	return &api.Fault{Code: code}
}
