package equal

import (
	"math/rand"
	"testing"

	"gatewright/api"
)

// writer makes what it is told in one of many ways.
type writer struct {
	maker
	r *rand.Rand
}

func (w *writer) someAnd(a, b int) int {
	if w.r.Intn(2) == 0 {
		a, b = b, a
	}
	switch w.r.Intn(6) {
	case 0:
		return w.and(a, w.and(a, b))
	case 1:
		return w.and(a, w.or(a^1, b))
	}
	return w.and(a, b)
}

func (w *writer) someOr(a, b int) int { return w.someAnd(a^1, b^1) ^ 1 }

func (w *writer) someXor(a, b int) int {
	if w.r.Intn(2) == 0 {
		a, b = b, a
	}
	switch w.r.Intn(4) {
	case 0:
		return w.xor(a, b)
	case 1:
		return w.nandXor(a, b)
	case 2:
		return w.choice(a, b^1, b)
	}
	return w.and(w.or(a, b), w.and(a, b)^1)
}

func (w *writer) someChoice(s, a, b int) int {
	switch w.r.Intn(3) {
	case 0:
		return w.someOr(w.someAnd(s, a), w.someAnd(s^1, b))
	case 1:
		return w.someAnd(w.someOr(s^1, a), w.someOr(s, b))
	}
	return w.someXor(b, w.someAnd(s, w.someXor(a, b)))
}

// someFold joins in any order.
func (w *writer) someFold(join func(a, b int) int, list ...int) int {
	list = shuffled(w.r, list)
	for len(list) > 1 {
		i := w.r.Intn(len(list) - 1)
		list[i] = join(list[i], list[i+1])
		list = append(list[:i+1], list[i+2:]...)
	}
	return list[0]
}

func (w *writer) someSum(a, b []int) []int {
	if w.r.Intn(2) == 0 {
		a, b = b, a
	}
	if w.r.Intn(2) == 0 {
		return w.add(a, b)
	}
	return w.addByChoice(a, b)
}

// write makes a machine that r tells, in ways of its own.
func (w *writer) write(r *rand.Rand, inputs, latches, size, outputs int) {
	list := w.inputs(inputs)
	kept := w.latches(latches)
	list = append(list, kept...)
	for len(list) < inputs+latches+size {
		any := func() int { return list[r.Intn(len(list))] ^ r.Intn(2) }
		late := func() int { return list[max(0, len(list)-1-r.Intn(10))] ^ r.Intn(2) }
		x, y, z, u := any(), late(), any(), late()
		switch r.Intn(8) {
		case 0:
			list = append(list, w.someAnd(x, y))
		case 1:
			list = append(list, w.someXor(x, y))
		case 2, 3:
			list = append(list, w.someChoice(x, y, z))
		case 4:
			list = append(list, w.someFold(w.someXor, x, y, z, u))
		case 5:
			list = append(list, w.someFold(w.someAnd, x, y, z, u))
		case 6:
			list = append(list, w.someFold(w.someOr, x, y, z))
		default:
			list = append(list, w.someSum([]int{x, y, z}, []int{u, any(), late()})...)
		}
	}
	for i := range kept {
		w.Latches[i] = api.Latch{Next: list[len(list)-1-r.Intn(len(list)/2)], Init: r.Intn(3) == 0}
	}
	for range outputs {
		w.out(list[len(list)-1-r.Intn(len(list)/2)] ^ r.Intn(2))
	}
}

// TestRewritten: machines that are written twice, each time in other ways, are the same; also if their latches are in another order.
func TestRewritten(t *testing.T) {
	r := rand.New(rand.NewSource(21))
	differ, whole := 0, 0
	for range 250 {
		inputs, latches, size, outputs := 1+r.Intn(30), r.Intn(20), 4+r.Intn(50), 1+r.Intn(5)
		seed := r.Int63()
		one, other := &writer{r: r}, &writer{r: r}
		one.write(rand.New(rand.NewSource(seed)), inputs, latches, size, outputs)
		other.write(rand.New(rand.NewSource(seed)), inputs, latches, size, outputs)
		a, b := one.Graph, other.Graph
		if !join(a, b).isWhole() {
			continue
		}
		whole++
		for _, h := range []api.Graph{b, moved(r, b)} {
			depth := r.Intn(51)
			v := Check(a, h, depth)
			holdVerdict(t, a, h, depth, v)
			if v.Kind != api.VSame {
				t.Fatalf("kind %d: %+v and %+v", v.Kind, a, h)
			}
			h = spoilt(r, h)
			v = Check(a, h, depth)
			holdVerdict(t, a, h, depth, v)
			differ += v.Kind / api.VDiffer
		}
	}
	if differ < whole/4 || whole < 120 {
		t.Errorf("%d are not too large, %d differ", whole, differ)
	}
}
