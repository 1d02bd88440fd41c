package sat

import (
	"math/rand"
	"slices"
	"testing"

	"gatewright/refute"
)

func TestReluctant(t *testing.T) {
	var got []int
	for i := range 15 {
		got = append(got, reluctant(i+1))
	}
	if !slices.Equal(got, []int{1, 1, 2, 1, 1, 2, 4, 1, 1, 2, 1, 1, 2, 4, 8}) {
		t.Error(got)
	}
}

// TestOrder: the most active variable is taken, the lowest one of those that are equally active.
func TestOrder(t *testing.T) {
	r := rand.New(rand.NewSource(7))
	o := newOrder(40)
	isIn := make([]bool, 40)
	for v := range isIn {
		isIn[v] = true
	}
	count := 40
	for range 20000 {
		switch v := r.Intn(40); r.Intn(4) {
		case 0:
			o.meet(v)
		case 1:
			o.age()
		case 2:
			if o.insert(v); !isIn[v] {
				isIn[v] = true
				count++
			}
		default:
			if count == 0 {
				continue
			}
			top := o.take()
			for w := range isIn {
				if isIn[w] && o.isAhead(int32(w), int32(top)) {
					t.Fatalf("%d is taken, %d stands ahead of it", top, w)
				}
			}
			isIn[top] = false
			count--
		}
		if len(o.heap) != count {
			t.Fatal(len(o.heap), count)
		}
	}
	if o.raise > 1e101 {
		t.Error("nothing was made smaller")
	}
}

// TestHasty: where clauses are dropped all the time, and calm and hasty times change at once, the answers hold as well.
func TestHasty(t *testing.T) {
	r := rand.New(rand.NewSource(8))
	drops := 0
	for i := range 300 {
		f := exactly(r, 60, 240+r.Intn(60), 3)
		if i%3 == 0 {
			f = pigeons(6)
			r.Shuffle(len(f.Clauses), func(i, j int) { f.Clauses[i], f.Clauses[j] = f.Clauses[j], f.Clauses[i] })
		}
		s := newSolver(f.Vars)
		s.pace.drops = -firstDrop / laterDrops
		s.pace.dropAt = r.Intn(20)
		s.pace.turnAt = r.Intn(100)
		s.pace.turn = -900
		s.takeAll(f.Clauses)
		if s.search(nil) == Possible {
			if !isModel(f, s.model()) {
				t.Fatal("no model")
			}
		} else if !refute.Check(f, s.book.needed(s.book.last())) {
			t.Fatal("no refutation")
		}
		drops += s.pace.drops + firstDrop/laterDrops
	}
	if drops < 300 {
		t.Errorf("clauses were dropped %d times", drops)
	}
}

// TestNeeded: what the empty clause does not hang on is not told, nor what is silent.
func TestNeeded(t *testing.T) {
	b := book{}
	first := b.add([]literal{0, 3}, []int32{given})
	source := b.add([]literal{4, 1}, []int32{given, given})
	b.add([]literal{2}, []int32{source, given})
	silent := b.addSilent([]int32{source, given})
	b.add([]literal{6}, nil)
	b.add(nil, []int32{silent, given})
	if told := b.needed(b.last()); !slices.EqualFunc(told, [][]int{{3, -1}, {}}, slices.Equal) {
		t.Error(told)
	}
	if told := b.needed(first, silent, given); !slices.EqualFunc(told, [][]int{{1, -2}, {3, -1}}, slices.Equal) {
		t.Error(told)
	}
	closed := book{isClosed: true}
	if closed.add([]literal{0}, nil) != given || closed.addSilent(nil) != given || len(closed.needed(given)) > 0 {
		t.Errorf("%+v", closed)
	}
}
