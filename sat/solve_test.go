package sat

import (
	"fmt"
	"math/rand"
	"reflect"
	"slices"
	"testing"

	"gatewright/api"
	"gatewright/refute"
)

// isModel asks whether each clause has a true literal.
func isModel(f api.Formula, model []bool) bool {
	if len(model) != f.Vars {
		return false
	}
	isTrue := func(n int) bool {
		if n < 0 {
			return !model[-n-1]
		}
		return model[n-1]
	}
	for _, c := range f.Clauses {
		if !slices.ContainsFunc(c, isTrue) {
			return false
		}
	}
	return true
}

// hasModel tries all there are.
func hasModel(f api.Formula) bool {
	for k := range 1 << f.Vars {
		model := make([]bool, f.Vars)
		for v := range model {
			model[v] = k>>v&1 == 1
		}
		if isModel(f, model) {
			return true
		}
	}
	return false
}

// follows tells the chapter's rule word by word. Strictly, a literal that stands twice is not alone.
func follows(clauses [][]int, c []int, isStrict bool) bool {
	isFalse := map[int]bool{}
	for _, n := range c {
		isFalse[n] = true
		if isFalse[-n] {
			return true
		}
	}
	for isNew := true; isNew; {
		isNew = false
		for _, d := range clauses {
			left := slices.DeleteFunc(slices.Clone(d), func(n int) bool { return isFalse[n] })
			if !isStrict {
				slices.Sort(left)
				left = slices.Compact(left)
			}
			if len(left) == 0 {
				return true
			}
			if len(left) == 1 && !isFalse[-left[0]] {
				isFalse[-left[0]] = true
				isNew = true
			}
		}
	}
	return false
}

// isRefutation asks, slowly, whether the steps are one, however literals that stand twice are taken.
func isRefutation(f api.Formula, steps [][]int) bool {
	clauses := slices.Clone(f.Clauses)
	for _, c := range steps {
		if !follows(clauses, c, true) || !follows(clauses, c, false) {
			return false
		}
		clauses = append(clauses, c)
	}
	return len(steps) > 0 && len(steps[len(steps)-1]) == 0
}

// hold solves a formula, and fails if the answer is none.
func hold(t *testing.T, what string, f api.Formula) api.Answer {
	t.Helper()
	before := Print(f)
	a := Solve(f)
	switch {
	case Print(f) != before:
		t.Fatalf("%s: the formula was changed", what)
	case a.Sat && (a.Proof != nil || !isModel(f, a.Model)):
		t.Fatalf("%s: no model", what)
	case !a.Sat && (a.Model != nil || !refute.Check(f, a.Proof)):
		t.Fatalf("%s: no refutation", what)
	}
	return a
}

func TestSolveByHand(t *testing.T) {
	for _, c := range []struct {
		text  string
		isSat bool
	}{
		{"p cnf 0 0", true},
		{"p cnf 3 0", true},
		{"p cnf 0 1 0", false},
		{"p cnf 2 2 1 0 0", false},
		{"p cnf 2 2 0 0", false},
		{"p cnf 1 1 1 0", true},
		{"p cnf 1 1 -1 0", true},
		{"p cnf 1 2 1 0 -1 0", false},
		{"p cnf 1 2 1 1 0 -1 -1 0", false},
		{"p cnf 1 2 1 -1 0 1 0", true},
		{"p cnf 2 3 1 -1 0 -2 2 0 -2 0", true},
		{"p cnf 2 4 1 2 0 1 -2 0 -1 2 0 -1 -2 0", false},
		{"p cnf 2 4 1 2 2 0 1 -2 1 0 -1 2 -1 0 -1 -2 -2 0", false},
		{"p cnf 2 3 1 2 0 1 -2 0 -1 2 0", true},
		{"p cnf 3 4 1 0 -1 2 0 -2 3 0 -3 -1 0", false},
		{"p cnf 3 3 1 0 1 0 1 0", true},
	} {
		f, err := Parse(c.text)
		if err != nil {
			t.Fatal(c.text)
		}
		a := hold(t, c.text, f)
		if a.Sat != c.isSat || !a.Sat && !isRefutation(f, a.Proof) {
			t.Errorf("%s: %+v", c.text, a)
		}
	}
}

// TestEmptyClauseAlone: the document's example; what unit propagation finds is not told.
func TestEmptyClauseAlone(t *testing.T) {
	for _, clauses := range [][][]int{
		{{1}, {-1}},
		{{}},
		{{-1, 2}, {-2, 3}, {1}, {-3}},
	} {
		if a := Solve(api.Formula{Vars: 3, Clauses: clauses}); !reflect.DeepEqual(a, api.Answer{Proof: [][]int{{}}}) {
			t.Errorf("%v: %+v", clauses, a)
		}
	}
}

func TestNotValid(t *testing.T) {
	for _, f := range []api.Formula{
		{Vars: -1},
		{Vars: 100001},
		{Vars: 1 << 60},
		{Vars: 2, Clauses: [][]int{{1}, {3}}},
		{Vars: 2, Clauses: [][]int{{1}, {-3}}},
		{Vars: 2, Clauses: [][]int{{1}, {0}}},
		{Vars: 2, Clauses: [][]int{{-1 << 63}}},
		{Vars: 0, Clauses: [][]int{{1}}},
	} {
		if a := Solve(f); !reflect.DeepEqual(a, api.Answer{}) {
			t.Errorf("%v: %+v", f, a)
		}
		Print(f)
	}
}

func TestSmallFormulas(t *testing.T) {
	r := rand.New(rand.NewSource(3))
	count := [2]int{}
	for range 20000 {
		vars := r.Intn(9)
		f := randomFormula(r, vars, r.Intn(6*vars+2), 1+r.Intn(5))
		a := hold(t, Print(f), f)
		if a.Sat != hasModel(f) || !a.Sat && !isRefutation(f, a.Proof) {
			t.Fatalf("%s: %+v", Print(f), a)
		}
		if a.Sat {
			count[1]++
		} else {
			count[0]++
		}
	}
	if min(count[0], count[1]) < 2000 {
		t.Error(count)
	}
}

// exactly makes a random formula of clauses with so many different variables.
func exactly(r *rand.Rand, vars, clauses, length int) api.Formula {
	f := api.Formula{Vars: vars}
	for range clauses {
		c := r.Perm(vars)[:length]
		for i := range c {
			c[i]++
			if r.Intn(2) == 0 {
				c[i] = -c[i]
			}
		}
		f.Clauses = append(f.Clauses, c)
	}
	return f
}

func TestRandomFormulas(t *testing.T) {
	r := rand.New(rand.NewSource(4))
	count := [2]int{}
	for i := range 60 {
		vars := 20 + 2*i
		a := hold(t, fmt.Sprint(vars), exactly(r, vars, vars*43/10, 3))
		if a.Sat {
			count[1]++
		} else {
			count[0]++
		}
	}
	if min(count[0], count[1]) < 10 {
		t.Error(count)
	}
}

// TestMixedFormulas: clauses of two literals and of three, so that much becomes known on the way.
func TestMixedFormulas(t *testing.T) {
	r := rand.New(rand.NewSource(10))
	for range 5000 {
		f := exactly(r, 50, 150, 3)
		f.Clauses = append(f.Clauses, exactly(r, 50, 30, 2).Clauses...)
		hold(t, "mixed", f)
	}
}

// pigeons have no room: there is one more of them than there are holes.
func pigeons(holes int) api.Formula {
	f := api.Formula{Vars: holes * (holes + 1)}
	for p := range holes + 1 {
		var c []int
		for h := range holes {
			c = append(c, p*holes+h+1)
			for q := range p {
				f.Clauses = append(f.Clauses, []int{-(p*holes + h + 1), -(q*holes + h + 1)})
			}
		}
		f.Clauses = append(f.Clauses, c)
	}
	return f
}

func TestPigeons(t *testing.T) {
	for holes := range 8 {
		f := pigeons(holes)
		if a := hold(t, fmt.Sprint(holes), f); a.Sat || holes < 5 && !isRefutation(f, a.Proof) {
			t.Errorf("%d holes", holes)
		}
		if f.Clauses = f.Clauses[1:]; holes > 2 {
			f.Clauses = slices.DeleteFunc(f.Clauses, func(c []int) bool { return len(c) == holes && c[0] == 1 })
			if a := hold(t, fmt.Sprint(holes), f); !a.Sat {
				t.Errorf("%d holes, a pigeon less", holes)
			}
		}
	}
}

// odd adds that the sum of some literals is odd.
func odd(f *api.Formula, literals ...int) {
	for k := range 1 << len(literals) {
		c := []int{}
		ones := 0
		for i, n := range literals {
			if k>>i&1 == 1 {
				n = -n
				ones++
			}
			c = append(c, n)
		}
		if ones%2 == 0 {
			f.Clauses = append(f.Clauses, c)
		}
	}
}

// adder adds sum bits of two words; it tells the first of them.
func adder(f *api.Formula, a, b []int) []int {
	var sum []int
	f.Vars++
	carry := f.Vars
	f.Clauses = append(f.Clauses, []int{-carry})
	for i := range a {
		s, next := f.Vars+1, f.Vars+2
		f.Vars += 2
		odd(f, a[i], b[i], carry, -s)
		for _, p := range [][2]int{{a[i], b[i]}, {a[i], carry}, {b[i], carry}} {
			f.Clauses = append(f.Clauses, []int{-p[0], -p[1], next}, []int{p[0], p[1], -next})
		}
		sum = append(sum, s)
		carry = next
	}
	return sum
}

// TestSums: (a + b) + c is a + (b + c); with a carry held otherwise it is not.
func TestSums(t *testing.T) {
	for _, width := range []int{1, 4, 16, 24} {
		f := api.Formula{Vars: 3 * width}
		var word [3][]int
		for i := range f.Vars {
			word[i%3] = append(word[i%3], i+1)
		}
		one := adder(&f, adder(&f, word[0], word[1]), word[2])
		other := adder(&f, word[0], adder(&f, word[1], word[2]))
		var some []int
		for i := range one {
			f.Vars++
			some = append(some, f.Vars)
			f.Clauses = append(f.Clauses, []int{-f.Vars, one[i], other[i]}, []int{-f.Vars, -one[i], -other[i]})
		}
		f.Clauses = append(f.Clauses, some)
		if hold(t, "same", f).Sat {
			t.Errorf("sums of %d bits are not the same", width)
		}
		f.Clauses = slices.DeleteFunc(f.Clauses, func(c []int) bool { return len(c) == 1 })
		if !hold(t, "other", f).Sat {
			t.Errorf("sums of %d bits with any carry are the same", width)
		}
	}
}

// TestParity: in a ring of sums, with chords, all ends stand twice, so that not all but one can be even.
func TestParity(t *testing.T) {
	for _, size := range []int{3, 8, 16, 24} {
		f := api.Formula{Vars: 2 * size}
		for i := range size {
			last := []int{1 + i, 1 + (i+1)%size, size + 1 + i, size + 1 + (i*7+3)%size}
			if size%7 == 0 {
				t.Fatal("no chords")
			}
			if i > 0 {
				last[0] = -last[0]
			}
			odd(&f, last...)
		}
		if hold(t, fmt.Sprint(size), f).Sat {
			t.Errorf("%d sums", size)
		}
	}
}

func TestGreatFormulas(t *testing.T) {
	const most = 100000
	chain := api.Formula{Vars: most}
	for i := 1; i < most; i++ {
		chain.Clauses = append(chain.Clauses, []int{-i, i + 1})
	}
	hold(t, "a chain", chain)
	chain.Clauses = append(chain.Clauses, []int{most, 1}, []int{-most, 1}, []int{-most, -1})
	if hold(t, "a ring", chain).Sat {
		t.Error("a ring")
	}
	wide := api.Formula{Vars: most, Clauses: [][]int{{}}}
	for i := range most {
		wide.Clauses[0] = append(wide.Clauses[0], i+1)
	}
	hold(t, "a wide clause alone", wide)
	for i := range most - 1 {
		wide.Clauses = append(wide.Clauses, []int{-(i + 1)})
	}
	if a := hold(t, "a wide clause", wide); !a.Sat || !a.Model[most-1] {
		t.Error("a wide clause")
	}
	wide.Clauses = append(wide.Clauses, []int{-most})
	if hold(t, "a wide clause", wide).Sat {
		t.Error("a wide clause that is false")
	}
	r := rand.New(rand.NewSource(5))
	for _, length := range []int{2, 3} {
		f := api.Formula{Vars: most}
		for range most * (length - 1) {
			c := []int{}
			for range length {
				c = append(c, (1+r.Intn(most))*(1-2*r.Intn(2)))
			}
			f.Clauses = append(f.Clauses, c)
		}
		hold(t, "many clauses", f)
	}
}

// TestAnswersAgain: the same formula has the same answer; no two of its lists share memory.
func TestAnswersAgain(t *testing.T) {
	r := rand.New(rand.NewSource(6))
	for range 20 {
		f := exactly(r, 60, 270, 3)
		one, other := Solve(f), Solve(f)
		if !reflect.DeepEqual(one, other) {
			t.Fatal("another answer")
		}
		for i := range other.Proof {
			_ = append(other.Proof[i], 7)
			for k := range other.Proof[i] {
				other.Proof[i][k] = -other.Proof[i][k]
			}
			if i > 0 && !slices.Equal(one.Proof[i-1], opposites(other.Proof[i-1])) {
				t.Fatal("two lists share memory")
			}
		}
	}
}

func opposites(list []int) []int {
	list = slices.Clone(list)
	for i := range list {
		list[i] = -list[i]
	}
	return list
}

// TestWithin: whatever is left off tells nothing; what is not tells what Solve tells.
func TestWithin(t *testing.T) {
	r := rand.New(rand.NewSource(31))
	open, ended := 0, 0
	for i := range 300 {
		f := exactly(r, 40, 100+r.Intn(100), 3)
		if i%10 == 0 {
			f = pigeons(5)
		}
		want, all := Within(f, 1<<40)
		if !reflect.DeepEqual(want, Solve(f)) {
			t.Fatal("another answer than Solve's")
		}
		for _, most := range []int{-1, 0, 1 + r.Intn(all+1), all - 1, all, all + 1} {
			a, looks := Within(f, most)
			switch {
			case most >= all && !reflect.DeepEqual(a, want):
				t.Fatalf("%d looks are enough, not %d", all, most)
			case most >= all:
				ended++
			case !reflect.DeepEqual(a, api.Answer{}) && !reflect.DeepEqual(a, want):
				t.Fatal("another answer")
			case a.Sat || a.Proof != nil:
				ended++
			case looks <= most:
				t.Fatalf("left off at %d of %d", looks, most)
			default:
				open++
			}
		}
	}
	if open < 300 || ended < 600 {
		t.Errorf("%d left off, %d not", open, ended)
	}
	if a, looks := Within(api.Formula{Vars: -1}, 100); !reflect.DeepEqual(a, api.Answer{}) || looks != 0 {
		t.Errorf("%v of no formula", a)
	}
	if a, _ := Within(api.Formula{Vars: 1, Clauses: [][]int{{1}, {-1}}}, -1); len(a.Proof) != 1 {
		t.Errorf("%v of a formula that cannot hold at once", a)
	}
}
