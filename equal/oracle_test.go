package equal

import (
	"testing"

	"gatewright/aig"
	"gatewright/api"
	"gatewright/judge"
)

// worthOf tells what a graph's outputs and Nexts are at some inputs and latches, all as bits of numbers.
func worthOf(g *api.Graph, inputs, latches int) (outputs []bool, next int) {
	values := make([]bool, 1, 1+g.Inputs+len(g.Latches)+len(g.Ands))
	for i := range g.Inputs {
		values = append(values, inputs>>i&1 == 1)
	}
	for i := range g.Latches {
		values = append(values, latches>>i&1 == 1)
	}
	at := func(l int) bool { return values[l/2] != (l%2 == 1) }
	for _, and := range g.Ands {
		values = append(values, at(and[0]) && at(and[1]))
	}
	for _, o := range g.Outputs {
		outputs = append(outputs, at(o))
	}
	for i, l := range g.Latches {
		if at(l.Next) {
			next |= 1 << i
		}
	}
	return outputs, next
}

func firstOf(g *api.Graph) int {
	first := 0
	for i, l := range g.Latches {
		if l.Init {
			first |= 1 << i
		}
	}
	return first
}

func sameRow(a, b []bool) bool {
	for i := range a {
		if a[i] != b[i] {
			return false
		}
	}
	return true
}

// partAt tells after how many cycles two graphs can first show something else, by all traces there are; 0: never.
func partAt(a, b *api.Graph) int {
	type state struct{ a, b int }
	now := []state{{firstOf(a), firstOf(b)}}
	met := map[state]int{now[0]: 1}
	for cycle := 1; len(now) > 0; cycle++ {
		var later []state
		for _, s := range now {
			for inputs := range 1 << a.Inputs {
				one, nextA := worthOf(a, inputs, s.a)
				other, nextB := worthOf(b, inputs, s.b)
				if !sameRow(one, other) {
					return cycle
				}
				n := state{nextA, nextB}
				if met[n] == 0 {
					met[n] = 1
					later = append(later, n)
				}
			}
		}
		now = later
	}
	return 0
}

// sameStill asks whether two graphs have the same latches, and are worth the same at all inputs and latches.
func sameStill(a, b *api.Graph) bool {
	if len(a.Latches) != len(b.Latches) || firstOf(a) != firstOf(b) {
		return false
	}
	for inputs := range 1 << a.Inputs {
		for latches := range 1 << len(a.Latches) {
			one, nextA := worthOf(a, inputs, latches)
			other, nextB := worthOf(b, inputs, latches)
			if !sameRow(one, other) || nextA != nextB {
				return false
			}
		}
	}
	return true
}

// holdVerdict fails if a verdict is none, whatever the graphs are.
func holdVerdict(t *testing.T, a, b api.Graph, depth int, v api.Verdict) {
	t.Helper()
	isEmpty := v.Cert.Pairs == nil && v.Cert.Base == nil && v.Cert.Step == nil && v.Cert.Outlet == nil
	switch {
	case v.Kind == api.VOpen && v.Trace == nil && isEmpty:
	case v.Kind == api.VSame && v.Trace == nil:
		if !judge.Holds(a, b, v.Cert) {
			t.Fatalf("the certificate does not hold: %+v of %+v and %+v", v, a, b)
		}
	case v.Kind == api.VDiffer && isEmpty:
		one, other := aig.Run(a, v.Trace), aig.Run(b, v.Trace)
		last := len(v.Trace) - 1
		if last < 0 || last >= depth {
			t.Fatalf("a trace of %d cycles, %d are asked", last+1, depth)
		}
		for i, row := range v.Trace {
			if len(row) != a.Inputs || sameRow(one[i], other[i]) != (i < last) {
				t.Fatalf("cycle %d of the trace: %+v of %+v and %+v", i, v, a, b)
			}
		}
	default:
		t.Fatalf("no verdict: %+v", v)
	}
}

// holdAll fails unless the verdict on small graphs is what the chapter asks.
func holdAll(t *testing.T, a, b api.Graph, depth int) api.Verdict {
	t.Helper()
	v := Check(a, b, depth)
	holdVerdict(t, a, b, depth, v)
	at := partAt(&a, &b)
	switch {
	case at > 0 && at <= depth:
		if v.Kind != api.VDiffer || len(v.Trace) != at {
			t.Fatalf("they part at cycle %d, depth %d: %+v of %+v and %+v", at, depth, v, a, b)
		}
	case sameStill(&a, &b):
		if v.Kind != api.VSame {
			t.Fatalf("they are the same: %+v of %+v and %+v", v, a, b)
		}
	case v.Kind == api.VSame && at > 0:
		t.Fatalf("they part at cycle %d: %+v of %+v and %+v", at, v, a, b)
	}
	return v
}
