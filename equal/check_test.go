package equal

import (
	"fmt"
	"math/rand"
	"reflect"
	"testing"

	"gatewright/aig"
	"gatewright/api"
)

// turning has a latch that turns when the input is true, or (but) when it is not.
func turning(but bool) api.Graph {
	m := &maker{}
	x, l := m.inputs(1), m.latches(1)
	m.next(l, []int{m.xor(x[0], l[0])})
	if but {
		m.Latches[0].Next ^= 1
	}
	m.out(l[0])
	return m.Graph
}

func TestByHand(t *testing.T) {
	begun := turning(false)
	begun.Latches[0].Init = true
	late := func(cycles int) api.Graph {
		m := &maker{}
		x, l := m.inputs(1), m.latches(cycles)
		m.next(l, append(x, l...))
		m.out(append(x, l...)[cycles])
		return m.Graph
	}
	for _, c := range []struct {
		name                string
		a, b                api.Graph
		depth, kind, cycles int
	}{
		{"nothing", api.Graph{}, api.Graph{}, 5, api.VSame, 0},
		{"no output", turning(false), turning(true), 5, api.VDiffer, 2},
		{"the same", turning(true), turning(true), 0, api.VSame, 0},
		{"other first values", turning(false), begun, 1, api.VDiffer, 1},
		{"not deep enough for these", turning(false), begun, 0, api.VOpen, 0},
		{"not deep enough for what comes later", turning(false), turning(true), 1, api.VOpen, 0},
		{"constants", api.Graph{Inputs: 2, Outputs: []int{0}}, api.Graph{Inputs: 2, Outputs: []int{1}}, 50, api.VDiffer, 1},
		{"the same constants", api.Graph{Outputs: []int{1}}, api.Graph{Latches: []api.Latch{{Next: 2, Init: true}}, Outputs: []int{2}}, 50, api.VSame, 0},
		{"an input at once or later", late(0), late(1), 9, api.VDiffer, 1},
		{"an input or nothing, later", late(3), api.Graph{Inputs: 1, Outputs: []int{0}}, 4, api.VDiffer, 4},
		{"that is too late", late(3), api.Graph{Inputs: 1, Outputs: []int{0}}, 3, api.VOpen, 0},
		{"latches that nobody needs", api.Graph{Inputs: 1, Latches: []api.Latch{{Next: 5}}, Outputs: []int{2}}, api.Graph{Inputs: 1, Outputs: []int{2}}, 3, api.VSame, 0},
		{"no outputs at all", api.Graph{Inputs: 1, Latches: []api.Latch{{Next: 2}}}, api.Graph{Inputs: 1}, 3, api.VSame, 0},
		{"more inputs", api.Graph{Inputs: 1, Outputs: []int{0}}, api.Graph{Inputs: 2, Outputs: []int{1}}, 3, api.VOpen, 0},
		{"more outputs", api.Graph{Inputs: 1, Outputs: []int{0}}, api.Graph{Inputs: 1, Outputs: []int{1, 1}}, 3, api.VOpen, 0},
		{"no graph", api.Graph{Inputs: 1, Outputs: []int{0}}, api.Graph{Inputs: 1, Outputs: []int{4}}, 3, api.VOpen, 0},
		{"nor here", api.Graph{Inputs: -1, Outputs: []int{0}}, api.Graph{Inputs: -1, Outputs: []int{1}}, 3, api.VOpen, 0},
	} {
		v := Check(c.a, c.b, c.depth)
		if v.Kind != c.kind || len(v.Trace) != c.cycles {
			t.Errorf("%s: %+v", c.name, v)
		}
		holdVerdict(t, c.a, c.b, c.depth, v)
	}
	if v := Check(late(3), api.Graph{Inputs: 1, Outputs: []int{0}}, 50); len(v.Trace) != 4 || !v.Trace[0][0] {
		t.Errorf("an input or nothing: %+v", v)
	}
}

// TestDepth: a depth that is none is taken as the nearest one.
func TestDepth(t *testing.T) {
	a, b := counters(1, 6, 49)
	c, d := counters(1, 6, 50)
	for _, x := range []struct {
		a, b          api.Graph
		depth, cycles int
	}{
		{a, b, 49, 0}, {a, b, 50, 50}, {a, b, 51, 50}, {a, b, 1 << 62, 50}, {c, d, 50, 0}, {c, d, 1 << 62, 0}, {a, b, -1, 0}, {a, b, -1 << 63, 0},
	} {
		if v := Check(x.a, x.b, x.depth); len(v.Trace) != x.cycles || (v.Kind == api.VDiffer) != (x.cycles > 0) {
			t.Errorf("depth %d: kind %d, %d cycles", x.depth, v.Kind, len(v.Trace))
		}
	}
}

// TestKept: what is handed over is only read, and the same is told each time.
func TestKept(t *testing.T) {
	r := rand.New(rand.NewSource(2))
	for range 300 {
		a := grown(r, r.Intn(8), r.Intn(8), r.Intn(80), 1+r.Intn(4), 20)
		b := retold(r, a)
		if r.Intn(2) == 0 {
			b = spoilt(r, b)
		}
		oldA, oldB := copyOf(a), copyOf(b)
		v := Check(a, b, 20)
		again := Check(a, b, 20)
		if !reflect.DeepEqual(v, again) {
			t.Fatalf("%+v, and another time %+v", v, again)
		}
		for _, row := range v.Trace {
			clear(row)
		}
		for _, steps := range [][][]int{v.Cert.Base, v.Cert.Step, v.Cert.Outlet} {
			for _, c := range steps {
				clear(c)
			}
			clear(steps)
		}
		clear(v.Cert.Pairs)
		if !reflect.DeepEqual(a, oldA) || !reflect.DeepEqual(b, oldB) || !reflect.DeepEqual(Check(a, b, 20), again) {
			t.Fatal("something is shared")
		}
	}
}

// hold fails unless the verdict is of a kind, and is one.
func hold(t *testing.T, name string, a, b api.Graph, depth, kind, cycles int) {
	t.Helper()
	v := Check(a, b, depth)
	if v.Kind != kind || len(v.Trace) != cycles {
		t.Errorf("%s: kind %d, %d cycles", name, v.Kind, len(v.Trace))
	}
	holdVerdict(t, a, b, depth, v)
}

// TestStillHard: at all inputs and latches they are worth the same, which is not easy to see.
func TestStillHard(t *testing.T) {
	r := rand.New(rand.NewSource(3))
	for _, n := range []int{9, 20, 85} {
		a, b, x := two(n)
		a.out(a.fold(x, a.xor))
		b.out(b.tree(x, b.xor))
		hold(t, fmt.Sprint("odd ", n), a.Graph, b.Graph, 3, api.VSame, 0)
	}
	a, b, x := two(22)
	a.out(a.fold(shuffled(r, x), a.xor))
	b.out(b.fold(shuffled(r, x), b.nandXor))
	hold(t, "odd, in any order", a.Graph, b.Graph, 3, api.VSame, 0)
	a, b, x = two(48)
	a.out(a.add(x[:24], x[24:])...)
	b.out(b.addByChoice(x[24:], x[:24])...)
	hold(t, "sums", a.Graph, b.Graph, 50, api.VSame, 0)
	a, b, x = two(36)
	a.out(a.add(a.add(x[:12], x[12:24]), x[24:])...)
	b.out(b.add(x[:12], b.add(x[12:24], x[24:]))...)
	hold(t, "sums of three", a.Graph, b.Graph, 50, api.VSame, 0)
	a, b, x = two(14)
	a.out(a.multiply(x[:7], x[7:])...)
	b.out(b.multiply(x[7:], x[:7])...)
	hold(t, "products", a.Graph, b.Graph, 50, api.VSame, 0)
	a, b, x = two(15)
	a.out(a.multiply(a.multiply(x[:5], x[5:10]), x[10:])...)
	b.out(b.multiply(x[:5], b.multiply(x[5:10], x[10:]))...)
	hold(t, "products of three", a.Graph, b.Graph, 50, api.VSame, 0)
	a, b, x = two(15)
	a.out(a.multiply(x[:5], a.add(x[5:10], x[10:]))...)
	b.out(b.add(b.multiply(x[:5], x[5:10]), b.multiply(x[:5], x[10:]))...)
	hold(t, "a product of a sum", a.Graph, b.Graph, 50, api.VSame, 0)
	// With latches, which go into what they are next.
	a, b, x = two(6)
	for _, m := range []*maker{a, b} {
		l := m.latches(6)
		one, other := x, l
		if m == b {
			one, other = l, x
		}
		m.next(l, m.add(m.multiply(one, other), m.plusOne(x)))
		m.out(m.fold(l, m.xor))
	}
	hold(t, "products that are kept", a.Graph, b.Graph, 0, api.VSame, 0)
	hold(t, "products that are kept", a.Graph, b.Graph, 50, api.VSame, 0)
}

// TestSameForEver: certificates where latches are not the same one by one.
func TestSameForEver(t *testing.T) {
	for _, c := range []struct {
		name string
		make func() (api.Graph, api.Graph)
	}{
		{"sums", func() (api.Graph, api.Graph) { return sums(12) }},
		{"histories", func() (api.Graph, api.Graph) { return histories(3, 4) }},
		{"gray", func() (api.Graph, api.Graph) { return grayAndPlain(8) }},
		{"memories", func() (api.Graph, api.Graph) { return memories(4) }},
	} {
		a, b := c.make()
		for _, depth := range []int{0, 50} {
			hold(t, c.name, a, b, depth, api.VSame, 0)
		}
		hold(t, c.name+" the other way round", b, a, 50, api.VSame, 0)
	}
}

// TestLate: they part after many cycles, or after too many.
func TestLate(t *testing.T) {
	for _, inputs := range []int{1, 5, 30} {
		for _, width := range []int{6, 12} {
			for _, number := range []int{1, 17, 40, 60} {
				a, b := counters(inputs, width, number)
				name := fmt.Sprint("counters of ", inputs, " inputs, ", width, " bits, at ", number)
				hold(t, name, a, b, number, api.VOpen, 0)
				if number < 50 {
					hold(t, name, a, b, number+1, api.VDiffer, number+1)
					hold(t, name, b, a, 50, api.VDiffer, number+1)
				}
			}
		}
	}
}

// TestNeverSeen: no trace, and no certificate that could be expected; but each way to part is found.
func TestNeverSeen(t *testing.T) {
	r := rand.New(rand.NewSource(5))
	for _, c := range []struct {
		name string
		make func() (api.Graph, api.Graph)
	}{
		{"queues", func() (api.Graph, api.Graph) { return queues(2, 1) }},
		{"wide queues", func() (api.Graph, api.Graph) { return queues(2, 4) }},
		{"long queues", func() (api.Graph, api.Graph) { return queues(3, 1) }},
		{"filters", func() (api.Graph, api.Graph) { return filters(2, 5) }},
		{"long filters", func() (api.Graph, api.Graph) { return filters(3, 4, 9, 17, 30) }},
	} {
		a, b := c.make()
		if v := Check(a, b, 50); v.Kind == api.VDiffer {
			t.Errorf("%s: %+v", c.name, v)
		}
		for range 12 {
			h := spoilt(r, b)
			holdVerdict(t, a, h, 50, Check(a, h, 50))
		}
	}
}

// TestLarger: beyond the limit verdicts are right all the same, and each call ends soon.
func TestLarger(t *testing.T) {
	r := rand.New(rand.NewSource(6))
	some := grown(r, 100, 1000, 14000, 100, 30)
	all := grown(r, 100, 6000, 50000, 60000, 300)
	long, other := &maker{}, &maker{}
	for _, m := range []*maker{long, other} {
		x, l := m.inputs(1), m.latches(3000)
		m.next(l, append(x, l...))
		m.out(l[2999])
	}
	other.Outputs[0] -= 2
	product, turned, x := two(24)
	product.out(product.multiply(x[:12], x[12:])...)
	turned.out(turned.multiply(x[12:], x[:12])...)
	inputs := api.Graph{Inputs: 59999, Outputs: []int{2, 119999}}
	for _, c := range []struct {
		name string
		a, b api.Graph
		kind int // 0: whatever it is
	}{
		{"some, the same", some, copyOf(some), api.VSame},
		{"some, moved", some, moved(r, some), api.VSame},
		{"some, spoilt", some, spoilt(r, spoilt(r, spoilt(r, some))), 0},
		{"all, the same", all, copyOf(all), 0},
		{"all, moved", all, moved(r, all), 0},
		{"all, spoilt", all, spoilt(r, all), 0},
		{"long ones", long.Graph, other.Graph, 0},
		{"long, the same", long.Graph, copyOf(long.Graph), api.VSame},
		{"products", product.Graph, turned.Graph, 0},
		{"inputs alone", inputs, api.Graph{Inputs: 59999, Outputs: []int{2, 119998}}, api.VDiffer},
		{"inputs alone, the same", inputs, copyOf(inputs), 0},
	} {
		if !aig.Valid(c.a) || !aig.Valid(c.b) {
			t.Fatal(c.name)
		}
		v := Check(c.a, c.b, 50)
		holdVerdict(t, c.a, c.b, 50, v)
		if c.kind != 0 && v.Kind != c.kind {
			t.Errorf("%s: kind %d", c.name, v.Kind)
		}
	}
}
