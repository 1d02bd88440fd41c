package sat

import (
	"math"
	"math/rand"
	"slices"
	"testing"

	"gatewright/api"
	"gatewright/refute"
)

// asked is a session, and what it was told.
type asked struct {
	*Session
	f api.Formula
}

func (a *asked) add(vars int, clauses ...[]int) {
	a.f.Vars = max(a.f.Vars, vars)
	a.f.Clauses = append(a.f.Clauses, clauses...)
	a.Add(vars, clauses...)
}

// with is the formula, and that some literals are true.
func (a *asked) with(literals []int) api.Formula {
	f := api.Formula{Vars: a.f.Vars, Clauses: slices.Clone(a.f.Clauses)}
	for _, n := range literals {
		f.Clauses = append(f.Clauses, []int{n})
	}
	return f
}

// hold asks, and fails if the answer is none.
func (a *asked) hold(t *testing.T, most int, literals ...int) int {
	t.Helper()
	kind := a.Ask(most, literals...)
	switch kind {
	case Possible:
		model := make([]bool, a.f.Vars)
		for v := range model {
			model[v] = a.IsTrue(v + 1)
			if a.IsTrue(-v-1) == model[v] {
				t.Fatalf("%d and its opposite are worth the same", v+1)
			}
		}
		if !isModel(a.with(literals), model) {
			t.Fatalf("no model of %v with %v", a.f, literals)
		}
	case Refuted:
		if hasModel(a.with(literals)) {
			t.Fatalf("%v with %v has a model", a.f, literals)
		}
	default:
		if most == math.MaxInt {
			t.Fatalf("%v with %v is left open", a.f, literals)
		}
	}
	return kind
}

// holdSteps fails unless each step follows, and there is one that says that not all of some literals are true.
func (a *asked) holdSteps(t *testing.T, steps [][]int, literals []int) {
	t.Helper()
	clauses := slices.Clone(a.f.Clauses)
	isThere := false
	for _, c := range steps {
		if !follows(clauses, c, true) || !follows(clauses, c, false) {
			t.Fatalf("%v does not follow from %v", c, clauses)
		}
		clauses = append(clauses, c)
		isThere = isThere || !slices.ContainsFunc(c, func(n int) bool { return !slices.Contains(literals, -n) })
	}
	if !isThere {
		t.Fatalf("%v is derived for %v", steps, literals)
	}
}

func someClauses(r *rand.Rand, vars, count int) [][]int {
	var clauses [][]int
	for range count {
		size := 2 + r.Intn(3)
		if r.Intn(40) == 0 {
			size = r.Intn(2)
		}
		clauses = append(clauses, someLiterals(r, vars, size))
	}
	return clauses
}

func someLiterals(r *rand.Rand, vars, count int) []int {
	var list []int
	for range count {
		list = append(list, (1+r.Intn(vars))*(1-2*r.Intn(2)))
	}
	return list
}

// TestSession: formulas that grow, against all models there are; what is derived is looked at.
func TestSession(t *testing.T) {
	r := rand.New(rand.NewSource(31))
	kinds := map[int]int{}
	for i := range 2000 {
		isTold := i%3 > 0
		a := &asked{Session: NewSession(isTold)}
		if r.Intn(2) == 0 {
			a.solver.pace.dropAt = r.Intn(4)
			a.solver.pace.drops = -firstDrop / laterDrops
		}
		vars := 3 + r.Intn(8)
		var numbers []int
		var first []int
		for range 10 {
			vars += r.Intn(3) / 2
			a.add(vars, someClauses(r, vars, r.Intn(6))...)
			most := math.MaxInt
			if r.Intn(4) == 0 {
				most = r.Intn(10)
			}
			literals := someLiterals(r, vars, r.Intn(4))
			kind := a.hold(t, most, literals...)
			kinds[kind]++
			if kind != Refuted || !isTold {
				continue
			}
			a.holdSteps(t, a.Steps(a.Derived()), literals)
			if numbers == nil {
				first = literals
			}
			numbers = append(numbers, a.Derived())
		}
		if len(numbers) > 0 {
			a.holdSteps(t, a.Steps(numbers...), first)
		}
		if !isTold && len(a.Steps(a.Derived())) > 0 {
			t.Fatal("something is told that was not to be kept")
		}
	}
	if kinds[LeftOpen] < 300 || kinds[Possible] < 3000 || kinds[Refuted] < 3000 {
		t.Errorf("kinds of replies: %v", kinds)
	}
}

func TestSessionByHand(t *testing.T) {
	a := &asked{Session: NewSession(true)}
	if a.hold(t, math.MaxInt) != Possible {
		t.Error("nothing cannot hold")
	}
	a.add(3, []int{1, 2}, []int{-1, 3}, []int{-2, 3})
	for _, c := range []struct {
		literals []int
		kind     int
		steps    [][]int
	}{
		{[]int{1}, Possible, nil},
		{[]int{1, 1, 3}, Possible, nil},
		{[]int{1, -1}, Refuted, [][]int{{1, -1}}},
		{[]int{1, -3}, Refuted, [][]int{{3, -1}}},
		{[]int{-3}, Refuted, [][]int{{3}}},
		{[]int{2, 1, -3}, Refuted, [][]int{{3}, {3}}},
		{[]int{2}, Possible, nil},
	} {
		if kind := a.hold(t, math.MaxInt, c.literals...); kind != c.kind {
			t.Errorf("%v: %d", c.literals, kind)
		}
		if c.kind == Refuted && !slices.EqualFunc(a.Steps(a.Derived()), c.steps, slices.Equal) {
			t.Errorf("%v: %v", c.literals, a.Steps(a.Derived()))
		}
	}
	a.add(4, []int{-3, 4}, []int{-3, -4})
	for range 2 {
		if a.hold(t, -1) == Possible || a.hold(t, 100, 1) != Refuted {
			t.Error("what cannot hold holds")
		}
		a.add(5, []int{5})
	}
	if steps := a.Steps(a.Derived()); len(steps) == 0 || len(steps[len(steps)-1]) > 0 {
		t.Errorf("not refuted: %v", steps)
	}
}

// TestSessionLarger: many questions about one formula; those that are left open can be asked again.
func TestSessionLarger(t *testing.T) {
	r := rand.New(rand.NewSource(32))
	for range 20 {
		f := exactly(r, 80, 320, 3)
		s := NewSession(true)
		s.Add(f.Vars, f.Clauses...)
		for range 40 {
			literals := someLiterals(r, f.Vars, r.Intn(6))
			most, kind := 10, LeftOpen
			for kind == LeftOpen {
				before := s.Looks()
				kind = s.Ask(most, literals...)
				if kind == LeftOpen && s.Looks()-before < most {
					t.Fatalf("left open after %d of %d", s.Looks()-before, most)
				}
				most *= 2
			}
			g := f
			g.Clauses = slices.Clone(f.Clauses)
			for _, n := range literals {
				g.Clauses = append(g.Clauses, []int{n})
			}
			if kind == Refuted {
				steps := append(s.Steps(s.Derived()), []int{})
				if !refute.Check(g, steps) {
					t.Fatal("no refutation")
				}
				continue
			}
			model := make([]bool, f.Vars)
			for v := range model {
				model[v] = s.IsTrue(v + 1)
			}
			if !isModel(g, model) {
				t.Fatal("no model")
			}
		}
	}
}
