package fault

import (
	"errors"
	"testing"

	"gatewright/api"
)

// wrapped is an error with another one in it.
type wrapped struct{ error }

func (w wrapped) Unwrap() error { return w.error }

// thrownBy tells what Of makes of what a function throws.
func thrownBy(f func()) (err error) {
	defer func() { err = Of(recover(), api.FKind) }()
	f()
	return nil
}

func TestFaults(t *testing.T) {
	var list []int
	for _, c := range []struct {
		f        func()
		code, at int
	}{
		{func() { Throw(api.FName, 7) }, api.FName, 7},
		{func() { panic(wrapped{&api.Fault{Code: api.FBig, At: 3}}) }, api.FBig, 3},
		{func() { panic(errors.New("another")) }, api.FKind, 0},
		{func() { panic("a text") }, api.FKind, 0},
		{func() { list[0] = 1 }, api.FKind, 0},
	} {
		if code, at := api.Code(thrownBy(c.f)); code != c.code || at != c.at {
			t.Errorf("fault %d at %d, want %d at %d", code, at, c.code, c.at)
		}
	}
}
