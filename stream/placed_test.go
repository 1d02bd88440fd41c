package stream

import (
	"bytes"
	"reflect"
	"testing"

	"gatewright/api"
	"gatewright/place"
)

// TestPlaced: what place.Fit gives is valid, and is written and read.
func TestPlaced(t *testing.T) {
	for _, n := range []api.Tables{
		{},
		{Outputs: []int{1, 0}},
		{Inputs: 2, Outputs: []int{3, 2}},
		{Inputs: 2, Init: []bool{true}, Tables: []api.Table{{Ins: []int{2, 3, 4}, Bits: 0b10010110}, {Ins: []int{5}, Bits: 1}}, Next: []int{5}, Outputs: []int{6, 1}},
		{Init: []bool{true, false}, Next: []int{3, 2}, Outputs: []int{2, 3, 2}},
	} {
		for _, s := range []api.Shape{{Inputs: 2, Outputs: 3, Regs: 2, Rows: 5, Cols: 2}, {Inputs: 500, Outputs: 500, Regs: 500, Rows: 500, Cols: 100}} {
			c, err := place.Fit(n, s)
			if err != nil || !Valid(c) {
				t.Fatalf("%+v: %+v, %v", n, c, err)
			}
			b := Encode(c)
			if got, err := Decode(b); err != nil || !reflect.DeepEqual(got, c) || !bytes.Equal(b, bytesOf(c)) {
				t.Fatalf("%+v is read as %+v, %v", c, got, err)
			}
		}
	}
}
