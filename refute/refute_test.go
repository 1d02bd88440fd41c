package refute

import (
	"go/parser"
	"go/token"
	"math/rand"
	"path/filepath"
	"slices"
	"strings"
	"testing"

	"gatewright/api"
)

// isRefutation tells the chapter's rules word by word.
func isRefutation(f api.Formula, steps [][]int) bool {
	if f.Vars < 0 || f.Vars > 100000 {
		return false
	}
	for _, c := range slices.Concat(f.Clauses, steps) {
		if slices.ContainsFunc(c, func(n int) bool { return n == 0 || n > f.Vars || n < -f.Vars }) {
			return false
		}
	}
	clauses := slices.Clone(f.Clauses)
	for _, c := range steps {
		if !slowlyFollows(clauses, c) {
			return false
		}
		clauses = append(clauses, c)
	}
	return len(steps) > 0 && len(steps[len(steps)-1]) == 0
}

func slowlyFollows(clauses [][]int, c []int) bool {
	isFalse := map[int]bool{}
	for _, n := range c {
		isFalse[n] = true
		if isFalse[-n] {
			return true
		}
	}
	for isNew := true; isNew; {
		isNew = false
		for _, d := range clauses {
			left := slices.DeleteFunc(slices.Clone(d), func(n int) bool { return isFalse[n] })
			slices.Sort(left)
			left = slices.Compact(left)
			if len(left) == 0 {
				return true
			}
			if len(left) == 1 && !isFalse[-left[0]] {
				isFalse[-left[0]] = true
				isNew = true
			}
		}
	}
	return false
}

func TestByHand(t *testing.T) {
	two := [][]int{{1, 2}, {1, -2}, {-1, 2}, {-1, -2}}
	for _, c := range []struct {
		vars           int
		clauses, steps [][]int
		want           bool
	}{
		{1, [][]int{{1}, {-1}}, [][]int{{}}, true},
		{1, [][]int{{1, 1}, {-1, -1, -1}}, [][]int{{}}, true},
		{1, [][]int{{1}, {-1}}, nil, false},
		{1, [][]int{{1}, {-1}}, [][]int{}, false},
		{1, [][]int{{1}, {-1}}, [][]int{{1}}, false},
		{1, [][]int{{1}}, [][]int{{}}, false},
		{1, [][]int{{1}}, [][]int{{1}, {}}, false},
		{1, [][]int{{1}}, [][]int{{-1}, {}}, false},
		{1, nil, [][]int{{1, -1}, {}}, false},
		{1, [][]int{{1, -1}}, [][]int{{}}, false},
		{0, nil, [][]int{{}}, false},
		{0, [][]int{{}}, [][]int{{}}, true},
		{0, [][]int{{}}, [][]int{{}, {}}, true},
		{0, [][]int{{}}, nil, false},
		{2, two, [][]int{{}}, false},
		{2, two, [][]int{{2}, {}}, true},
		{2, two, [][]int{{2, 2}, {}}, true},
		{2, two, [][]int{{2}, {}, {-1}, {}}, true},
		{2, two, [][]int{{2}, {}, {-1}}, false},
		{2, two, [][]int{{2}, {}, {3}, {}}, false},
		{2, two, [][]int{{2}, {}, {0}, {}}, false},
		{2, two, [][]int{{1, -1}, {2, -2}, {-2}, {}}, true},
		{2, two[:3], [][]int{{2}, {}}, false},
		{2, two[:3], [][]int{{2}, {-2}, {}}, false},
		{3, two, [][]int{{3}, {2}, {}}, false},
		{3, two, [][]int{{3, 2}, {2}, {}}, true},
		{3, [][]int{{1}, {-1, 2}, {-2, 3}, {-3}}, [][]int{{}}, true},
		{3, [][]int{{1}, {-1, 2}, {-2, 3}}, [][]int{{3}, {}}, false},
		{-1, [][]int{{}}, [][]int{{}}, false},
		{100001, [][]int{{}}, [][]int{{}}, false},
		{100000, [][]int{{}}, [][]int{{}}, true},
		{1 << 62, [][]int{{}}, [][]int{{}}, false},
		{1, [][]int{{}, {2}}, [][]int{{}}, false},
		{1, [][]int{{}, {-2}}, [][]int{{}}, false},
		{1, [][]int{{}, {0}}, [][]int{{}}, false},
		{1, [][]int{{}, {-1 << 63}}, [][]int{{}}, false},
		{1, [][]int{{}}, [][]int{{-1 << 63}, {}}, false},
	} {
		f := api.Formula{Vars: c.vars, Clauses: c.clauses}
		if Check(f, c.steps) != c.want || isRefutation(f, c.steps) != c.want && c.vars < 1<<60 {
			t.Errorf("%v, %v: not %v", f, c.steps, c.want)
		}
	}
}

func randomClauses(r *rand.Rand, vars, count, length int) [][]int {
	var list [][]int
	for range count {
		c := []int{}
		for range 1 + r.Intn(length) {
			c = append(c, (1+r.Intn(vars))*(1-2*r.Intn(2)))
		}
		list = append(list, c)
	}
	return list
}

// proof derives all clauses of fewer and fewer variables: each follows from two that have one literal more.
func proof(vars int) (f api.Formula, steps [][]int) {
	f.Vars = vars
	for k := vars; k >= 0; k-- {
		for m := range 1 << k {
			c := []int{}
			for v := range k {
				c = append(c, (v+1)*(1-2*(m>>v&1)))
			}
			if k == vars {
				f.Clauses = append(f.Clauses, c)
			} else {
				steps = append(steps, c)
			}
		}
	}
	return f, steps
}

func TestRightProofs(t *testing.T) {
	for vars := range 11 {
		f, steps := proof(vars)
		if vars == 0 {
			steps = [][]int{{}}
		}
		if !Check(f, steps) || vars > 0 && Check(api.Formula{Vars: vars, Clauses: f.Clauses[1:]}, steps) {
			t.Errorf("%d variables", vars)
		}
	}
}

// spoil changes a proof somewhere.
func spoil(r *rand.Rand, f api.Formula, steps [][]int) [][]int {
	steps = slices.Clone(steps)
	i, k := r.Intn(len(steps)), r.Intn(len(steps))
	switch r.Intn(5) {
	case 0:
		steps = slices.Delete(steps, i, i+1)
	case 1:
		steps[i], steps[k] = steps[k], steps[i]
	case 2:
		steps = slices.Insert(steps, i, randomClauses(r, f.Vars, 1, 3)...)
	default:
		if len(steps[i]) == 0 {
			return steps
		}
		c := slices.Clone(steps[i])
		if n := r.Intn(len(c)); r.Intn(2) == 0 {
			c[n] = -c[n]
		} else {
			c = slices.Delete(c, n, n+1)
		}
		steps[i] = c
	}
	return steps
}

func TestSpoiltProofs(t *testing.T) {
	r := rand.New(rand.NewSource(1))
	count := [2]int{}
	for range 6000 {
		f, steps := proof(1 + r.Intn(5))
		r.Shuffle(len(f.Clauses), func(i, j int) { f.Clauses[i], f.Clauses[j] = f.Clauses[j], f.Clauses[i] })
		for range r.Intn(3) {
			if len(steps) > 0 {
				steps = spoil(r, f, steps)
			}
		}
		want := isRefutation(f, steps)
		if Check(f, steps) != want {
			t.Fatalf("%v, %v: not %v", f, steps, want)
		}
		if want {
			count[1]++
		} else {
			count[0]++
		}
	}
	if min(count[0], count[1]) < 1000 {
		t.Error(count)
	}
}

// TestTiers: whichever clauses are near, the same follows.
func TestTiers(t *testing.T) {
	r := rand.New(rand.NewSource(2))
	count := [2]int{}
	for range 3000 {
		vars := 4 + r.Intn(12)
		clauses := randomClauses(r, vars, 2*vars, 3)
		b := newBoard(vars)
		for _, c := range clauses {
			b.add(c)
		}
		for range 30 {
			c := randomClauses(r, vars, 1, 4)[0]
			want := slowlyFollows(clauses, c)
			if b.follows(c) != want {
				t.Fatalf("%v of %v: not %v", c, clauses, want)
			}
			if !want {
				count[0]++
				continue
			}
			count[1]++
			b.add(c)
			clauses = append(clauses, c)
			if r.Intn(3) == 0 {
				b.steps = 1 << 30
			}
			b.endStep()
		}
	}
	if min(count[0], count[1]) < 5000 {
		t.Error(count)
	}
}

// TestGreat: many variables, clauses and steps, of which each one tells little.
func TestGreat(t *testing.T) {
	const most = 100000
	f := api.Formula{Vars: most}
	for i := 1; i < most; i++ {
		f.Clauses = append(f.Clauses, []int{-i, i + 1})
	}
	var steps [][]int
	for i := most; i > 1; i-- {
		steps = append(steps, []int{-(i - 1), i})
	}
	if Check(f, append(steps, []int{})) {
		t.Error("a chain")
	}
	f.Clauses = append(f.Clauses, []int{-most})
	steps = nil
	for i := most; i > 0; i-- {
		steps = append(steps, []int{-i})
	}
	if Check(f, append(steps, []int{})) || !Check(api.Formula{Vars: most, Clauses: append(f.Clauses, []int{1})}, append(steps, []int{})) {
		t.Error("a chain with an end")
	}
	wide := make([]int, most)
	for i := range wide {
		wide[i] = i + 1
	}
	f = api.Formula{Vars: most, Clauses: [][]int{wide}}
	for i := range most {
		f.Clauses = append(f.Clauses, []int{-(i + 1)})
	}
	if !Check(f, [][]int{wide, {}}) || Check(api.Formula{Vars: most, Clauses: f.Clauses[:most]}, [][]int{wide, {}}) {
		t.Error("a wide clause")
	}
}

// TestNothingChanged: what is handed over is only read.
func TestNothingChanged(t *testing.T) {
	f, steps := proof(6)
	g, others := proof(6)
	Check(f, steps)
	if !slices.EqualFunc(f.Clauses, g.Clauses, slices.Equal) || !slices.EqualFunc(steps, others, slices.Equal) {
		t.Error("something was changed")
	}
}

// TestStandsOnAPIAlone: who checks knows nothing of who makes.
func TestStandsOnAPIAlone(t *testing.T) {
	files, err := filepath.Glob("*.go")
	if err != nil || len(files) < 2 {
		t.Fatal(err, files)
	}
	for _, name := range files {
		if strings.HasSuffix(name, "_test.go") {
			continue
		}
		file, err := parser.ParseFile(token.NewFileSet(), name, nil, parser.ImportsOnly)
		if err != nil {
			t.Fatal(err)
		}
		for _, i := range file.Imports {
			if path := i.Path.Value; strings.HasPrefix(path, `"gatewright`) && path != `"gatewright/api"` {
				t.Errorf("%s has %s", name, path)
			}
		}
	}
}
