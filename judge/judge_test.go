package judge

import (
	"go/parser"
	"go/token"
	"math/rand"
	"path/filepath"
	"reflect"
	"slices"
	"strings"
	"testing"

	"gatewright/aig"
	"gatewright/api"
	"gatewright/sat"
)

// grown makes a random graph that is valid.
func grown(r *rand.Rand, inputs, latches, ands, outputs int) api.Graph {
	g := api.Graph{Inputs: inputs}
	for i := range ands {
		ahead := 1 + inputs + latches + i
		g.Ands = append(g.Ands, [2]int{r.Intn(2 * ahead), r.Intn(2 * ahead)})
	}
	all := 1 + inputs + latches + ands
	for range latches {
		g.Latches = append(g.Latches, api.Latch{Next: r.Intn(2 * all), Init: r.Intn(2) == 0})
	}
	for range outputs {
		g.Outputs = append(g.Outputs, r.Intn(2*all))
	}
	return g
}

func copyOf(g api.Graph) api.Graph {
	g.Latches, g.Ands, g.Outputs = slices.Clone(g.Latches), slices.Clone(g.Ands), slices.Clone(g.Outputs)
	return g
}

// twoAlike makes two random graphs that are alike.
func twoAlike(r *rand.Rand) (a, b api.Graph) {
	inputs, outputs := r.Intn(4), r.Intn(4)
	return grown(r, inputs, r.Intn(4), r.Intn(12), outputs), grown(r, inputs, r.Intn(4), r.Intn(12), outputs)
}

func somePairs(r *rand.Rand, size, count int) [][2]int {
	var pairs [][2]int
	for range count {
		pairs = append(pairs, [2]int{r.Intn(2 * size), r.Intn(2 * size)})
	}
	return pairs
}

func TestJoinByHand(t *testing.T) {
	a := api.Graph{Inputs: 2, Latches: []api.Latch{{Next: 9, Init: true}}, Ands: [][2]int{{2, 7}}, Outputs: []int{8, 0, 6, 5}}
	b := api.Graph{Inputs: 2, Latches: []api.Latch{{Next: 8}, {Next: 13, Init: true}}, Ands: [][2]int{{6, 9}, {11, 1}}, Outputs: []int{12, 1, 7, 9}}
	want := api.Graph{
		Inputs:  2,
		Latches: []api.Latch{{Next: 13, Init: true}, {Next: 10}, {Next: 17, Init: true}},
		Ands:    [][2]int{{2, 7}, {8, 11}, {15, 1}},
		Outputs: []int{12, 0, 6, 5, 16, 1, 9, 11},
	}
	if g := Join(a, b); !reflect.DeepEqual(g, want) {
		t.Errorf("%+v, want %+v", g, want)
	}
	if g := Join(api.Graph{}, api.Graph{}); g.Inputs+len(g.Latches)+len(g.Ands)+len(g.Outputs) != 0 {
		t.Errorf("of nothing: %+v", g)
	}
}

// TestJoin: a joint graph shows what both graphs show, side by side.
func TestJoin(t *testing.T) {
	r := rand.New(rand.NewSource(1))
	for range 3000 {
		a, b := twoAlike(r)
		oldA, oldB := copyOf(a), copyOf(b)
		g := Join(a, b)
		if !aig.Valid(g) || g.Inputs != a.Inputs || len(g.Latches) != len(a.Latches)+len(b.Latches) || len(g.Ands) != len(a.Ands)+len(b.Ands) {
			t.Fatalf("%+v of %+v and %+v", g, a, b)
		}
		var trace [][]bool
		for range 8 {
			row := make([]bool, a.Inputs)
			for i := range row {
				row[i] = r.Intn(2) == 0
			}
			trace = append(trace, row)
		}
		one, other := aig.Run(a, trace), aig.Run(b, trace)
		for i, row := range aig.Run(g, trace) {
			if !slices.Equal(row, slices.Concat(one[i], other[i])) {
				t.Fatalf("cycle %d: %+v of %+v and %+v", i, g, a, b)
			}
		}
		for i := range g.Latches {
			g.Latches[i].Next = -1
		}
		for i := range g.Ands {
			g.Ands[i] = [2]int{-1, -1}
		}
		for i := range g.Outputs {
			g.Outputs[i] = -1
		}
		if !reflect.DeepEqual(a, oldA) || !reflect.DeepEqual(b, oldB) {
			t.Fatal("the graphs were changed")
		}
	}
}

// told tells the chapter's clauses word by word.
func told(a, b api.Graph, pairs [][2]int, which int) api.Formula {
	g := Join(a, b)
	n := 1 + g.Inputs + len(g.Latches) + len(g.Ands)
	in := func(k, literal int) int { return (k*n + literal/2 + 1) * (1 - 2*(literal%2)) }
	var f api.Formula
	add := func(c ...int) { f.Clauses = append(f.Clauses, c) }
	frame := func(k int) {
		add(-in(k, 0))
		for i, and := range g.Ands {
			x, p, q := in(k, 2*(n-len(g.Ands)+i)), in(k, and[0]), in(k, and[1])
			add(-x, p)
			add(-x, q)
			add(x, -p, -q)
		}
	}
	alike := func(k int) {
		for _, p := range pairs {
			add(-in(k, p[0]), in(k, p[1]))
			add(in(k, p[0]), -in(k, p[1]))
		}
	}
	unlike := func(pairs [][2]int, k, m int) {
		all := []int{}
		for i, p := range pairs {
			d := m*n + 1 + i
			add(-d, in(k, p[0]), in(k, p[1]))
			add(-d, -in(k, p[0]), -in(k, p[1]))
			all = append(all, d)
		}
		add(all...)
		f.Vars = m*n + len(pairs)
	}
	latch := func(i int) int { return 2 * (1 + g.Inputs + i) }
	frame(0)
	switch which {
	case 0:
		for i, l := range g.Latches {
			if l.Init {
				add(in(0, latch(i)))
			} else {
				add(-in(0, latch(i)))
			}
		}
		unlike(pairs, 0, 1)
	case 1:
		frame(1)
		for i, l := range g.Latches {
			add(-in(1, latch(i)), in(0, l.Next))
			add(in(1, latch(i)), -in(0, l.Next))
		}
		alike(0)
		unlike(pairs, 1, 2)
	case 2:
		alike(0)
		var outputs [][2]int
		for i := range a.Outputs {
			outputs = append(outputs, [2]int{g.Outputs[i], g.Outputs[len(a.Outputs)+i]})
		}
		unlike(outputs, 0, 1)
	}
	return f
}

func sameFormula(f, g api.Formula) bool {
	return f.Vars == g.Vars && slices.EqualFunc(f.Clauses, g.Clauses, slices.Equal)
}

func TestFormulaByHand(t *testing.T) {
	a := api.Graph{Inputs: 1, Latches: []api.Latch{{Next: 7, Init: true}}, Ands: [][2]int{{2, 5}}, Outputs: []int{6}}
	b := api.Graph{Inputs: 1, Latches: []api.Latch{{Next: 2}}, Outputs: []int{5}}
	// Joint: 0, input 1, latches 2 and 3, gate 4; in formulas one more each, in frame 1 six more each.
	pairs := [][2]int{{4, 7}, {1, 9}}
	for which, want := range []api.Formula{
		{Vars: 7, Clauses: [][]int{{-1}, {-5, 2}, {-5, -3}, {5, -2, 3}, {3}, {-4}, {-6, 3, -4}, {-6, -3, 4}, {-7, -1, -5}, {-7, 1, 5}, {6, 7}}},
		{Vars: 12, Clauses: [][]int{{-1}, {-5, 2}, {-5, -3}, {5, -2, 3}, {-6}, {-10, 7}, {-10, -8}, {10, -7, 8}, {-8, -5}, {8, 5}, {-9, 2}, {9, -2},
			{-3, -4}, {3, 4}, {1, -5}, {-1, 5}, {-11, 8, -9}, {-11, -8, 9}, {-12, -6, -10}, {-12, 6, 10}, {11, 12}}},
		{Vars: 6, Clauses: [][]int{{-1}, {-5, 2}, {-5, -3}, {5, -2, 3}, {-3, -4}, {3, 4}, {1, -5}, {-1, 5}, {-6, 5, -4}, {-6, -5, 4}, {6}}},
	} {
		if f := Formula(a, b, pairs, which); !sameFormula(f, want) {
			t.Errorf("%d: %v, want %v", which, f, want)
		}
	}
}

func TestFormula(t *testing.T) {
	r := rand.New(rand.NewSource(2))
	for i := range 3000 {
		a, b := twoAlike(r)
		size := variables(&a) + variables(&b) - 1 - a.Inputs
		pairs := somePairs(r, size, r.Intn(5))
		old := slices.Clone(pairs)
		f := Formula(a, b, pairs, i%3)
		if want := told(a, b, pairs, i%3); !sameFormula(f, want) {
			t.Fatalf("%v, want %v", f, want)
		}
		for _, c := range f.Clauses {
			for k := range c {
				c[k] = 0
			}
		}
		if again := Formula(a, b, pairs, i%3); !slices.Equal(pairs, old) || !sameFormula(again, told(a, b, pairs, i%3)) {
			t.Fatal("something is shared")
		}
	}
}

// TestWrong: what is not alike, no pair of literals, or none of the three formulas.
func TestWrong(t *testing.T) {
	good := api.Graph{Inputs: 1, Latches: []api.Latch{{Next: 2}}, Ands: [][2]int{{2, 4}}, Outputs: []int{6}}
	for name, g := range map[string]api.Graph{
		"more inputs":          {Inputs: 2, Outputs: []int{0}},
		"fewer outputs":        {Inputs: 1},
		"more outputs":         {Inputs: 1, Outputs: []int{0, 0}},
		"below no input":       {Inputs: -1, Outputs: []int{0}},
		"a gate on itself":     {Inputs: 1, Ands: [][2]int{{2, 4}}, Outputs: []int{0}},
		"a gate on a later":    {Inputs: 1, Ands: [][2]int{{6, 2}, {2, 2}}, Outputs: []int{0}},
		"a gate below all":     {Inputs: 1, Ands: [][2]int{{2, -1}}, Outputs: []int{0}},
		"a Next beyond all":    {Inputs: 1, Latches: []api.Latch{{Next: 6}}, Outputs: []int{0}},
		"a Next below all":     {Inputs: 1, Latches: []api.Latch{{Next: -1}}, Outputs: []int{0}},
		"an output beyond all": {Inputs: 1, Outputs: []int{4}},
		"an output below all":  {Inputs: 1, Outputs: []int{-1}},
		"too many latches":     {Inputs: 1, Latches: make([]api.Latch, 6001), Outputs: []int{0}},
		"too many gates":       {Inputs: 1, Ands: make([][2]int, 59999), Outputs: []int{0}},
		"too many outputs":     {Inputs: 1, Outputs: make([]int, 60001)},
	} {
		for _, pair := range [][2]api.Graph{{good, g}, {g, good}} {
			if j := Join(pair[0], pair[1]); !reflect.DeepEqual(j, api.Graph{}) {
				t.Errorf("%s: Join: %+v", name, j)
			}
			for which := range 3 {
				if f := Formula(pair[0], pair[1], nil, which); !reflect.DeepEqual(f, api.Formula{}) {
					t.Errorf("%s: Formula: %+v", name, f)
				}
			}
			if Holds(pair[0], pair[1], api.Cert{Base: [][]int{{}}, Step: [][]int{{}}, Outlet: [][]int{{}}}) {
				t.Errorf("%s: Holds", name)
			}
		}
	}
	for _, which := range []int{-1, 3, 1 << 40} {
		if f := Formula(good, good, nil, which); !reflect.DeepEqual(f, api.Formula{}) {
			t.Errorf("formula %d: %+v", which, f)
		}
	}
	for _, p := range [][2]int{{-1, 0}, {0, -1}, {12, 0}, {0, 12}, {1 << 62, 0}, {0, -1 << 63}} {
		for which := range 3 {
			if f := Formula(good, good, [][2]int{{0, 0}, p}, which); !reflect.DeepEqual(f, api.Formula{}) {
				t.Errorf("pair %v: %+v", p, f)
			}
		}
		if Holds(good, good, api.Cert{Pairs: [][2]int{p}, Base: [][]int{{}}, Step: [][]int{{}}, Outlet: [][]int{{}}}) {
			t.Errorf("pair %v holds", p)
		}
	}
	if f := Formula(good, good, [][2]int{{11, 10}}, 0); f.Vars != 7 {
		t.Errorf("the last literal: %+v", f)
	}
}

// refuted makes a certificate of pairs, if there is one.
func refuted(a, b api.Graph, pairs [][2]int) (c api.Cert, isCert bool) {
	c.Pairs = pairs
	for which, proof := range []*[][]int{&c.Base, &c.Step, &c.Outlet} {
		answer := sat.Solve(Formula(a, b, pairs, which))
		if answer.Sat {
			return api.Cert{}, false
		}
		*proof = answer.Proof
	}
	return c, true
}

// canPart tells whether two graphs can show something else at some time, by all states and inputs.
func canPart(a, b api.Graph) bool {
	g := Join(a, b)
	first := make([]bool, len(g.Latches))
	for i, l := range g.Latches {
		first[i] = l.Init
	}
	waiting := [][]bool{first}
	met := map[string]int{}
	for len(waiting) > 0 {
		state := waiting[0]
		waiting = waiting[1:]
		for inputs := range 1 << g.Inputs {
			values := []bool{false}
			for i := range g.Inputs {
				values = append(values, inputs>>i&1 == 1)
			}
			values = append(values, state...)
			at := func(l int) bool { return values[l/2] != (l%2 == 1) }
			for _, and := range g.Ands {
				values = append(values, at(and[0]) && at(and[1]))
			}
			for i := range a.Outputs {
				if at(g.Outputs[i]) != at(g.Outputs[len(a.Outputs)+i]) {
					return true
				}
			}
			next, key := make([]bool, len(state)), make([]byte, len(state))
			for i, l := range g.Latches {
				if next[i] = at(l.Next); next[i] {
					key[i] = 1
				}
			}
			if met[string(key)]++; met[string(key)] == 1 {
				waiting = append(waiting, next)
			}
		}
	}
	return false
}

// TestHolds: certificates of any pairs, if there are refutations, hold, and then the graphs show the same; spoilt ones do not.
func TestHolds(t *testing.T) {
	r := rand.New(rand.NewSource(3))
	held, spoilt := 0, 0
	for i := range 6000 {
		a, b := twoAlike(r)
		if i%2 == 0 {
			b = copyOf(a)
			if len(b.Ands) > 0 {
				k := r.Intn(len(b.Ands))
				b.Ands[k] = [2]int{b.Ands[k][1], b.Ands[k][0]}
			}
		}
		size := variables(&a) + variables(&b) - 1 - a.Inputs
		pairs := somePairs(r, size, r.Intn(3))
		if i%4 == 0 {
			for k := range a.Latches {
				pairs = append(pairs, [2]int{2 * (1 + a.Inputs + k), 2 * (1 + a.Inputs + len(a.Latches) + k)})
			}
		}
		c, isCert := refuted(a, b, pairs)
		if !isCert {
			continue
		}
		held++
		if !Holds(a, b, c) {
			t.Fatalf("%+v does not hold of %+v and %+v", c, a, b)
		}
		if canPart(a, b) {
			t.Fatalf("%+v holds of %+v and %+v", c, a, b)
		}
		spoilt += holdSpoilt(t, r, a, b, c)
	}
	if held < 800 || spoilt < 700 {
		t.Errorf("%d certificates, %d of them spoilt", held, spoilt)
	}
}

// holdSpoilt spoils a certificate in all its parts.
func holdSpoilt(t *testing.T, r *rand.Rand, a, b api.Graph, c api.Cert) int {
	t.Helper()
	for which := range 3 {
		for _, steps := range [][][]int{nil, {}, {{1}}, {{}, {1 << 40}}, {{0}, {}}} {
			d := c
			*[]*[][]int{&d.Base, &d.Step, &d.Outlet}[which] = steps
			if Holds(a, b, d) {
				t.Fatalf("%+v holds of %+v and %+v", d, a, b)
			}
		}
	}
	// One more pair that is unlike in some frame: whoever holds it for one has no refutation.
	d := c
	size := variables(&a) + variables(&b) - 1 - a.Inputs
	d.Pairs = append(slices.Clone(c.Pairs), somePairs(r, size, 1)...)
	if sat.Solve(Formula(a, b, d.Pairs, base)).Sat && Holds(a, b, d) {
		t.Fatalf("%+v holds of %+v and %+v", d, a, b)
	}
	h := copyOf(b)
	if len(h.Outputs) == 0 {
		return 0
	}
	h.Outputs[0] ^= 1
	if Holds(a, h, c) {
		t.Fatalf("%+v holds of %+v and %+v", c, a, h)
	}
	return 1
}

// TestGreat: graphs as large as may be. A formula may have more variables than are valid: then nothing holds.
func TestGreat(t *testing.T) {
	r := rand.New(rand.NewSource(4))
	g := grown(r, 3999, 6000, 50000, 60000)
	j := Join(g, g)
	if len(j.Ands) != 100000 || len(j.Outputs) != 120000 || len(j.Latches) != 12000 {
		t.Fatal("not joint")
	}
	f := Formula(g, g, nil, 2)
	if f.Vars != 116000+60000 || len(f.Clauses) != 1+3*100000+2*60000+1 {
		t.Errorf("%d variables, %d clauses", f.Vars, len(f.Clauses))
	}
	if Holds(g, g, api.Cert{Base: [][]int{{}}, Step: [][]int{{}}, Outlet: [][]int{{}}}) {
		t.Error("it holds")
	}
	// As many variables as a formula may have.
	for _, inputs := range []int{49998, 49999} {
		g := api.Graph{Inputs: inputs, Outputs: []int{3}}
		c := api.Cert{Pairs: [][2]int{{2, 2}, {5, 5}}, Base: [][]int{{-inputs - 2}, {-inputs - 3}, {}}, Step: [][]int{{-2*inputs - 3}, {-2*inputs - 4}, {}}, Outlet: [][]int{{-inputs - 2}, {}}}
		if Holds(g, g, c) != (2*(inputs+1)+2 <= 100000) {
			t.Errorf("%d inputs", inputs)
		}
	}
}

// TestAlone: the package calls no other one but api and refute.
func TestAlone(t *testing.T) {
	files, err := filepath.Glob("*.go")
	if err != nil || len(files) == 0 {
		t.Fatal(err)
	}
	for _, name := range files {
		if strings.HasSuffix(name, "_test.go") {
			continue
		}
		file, err := parser.ParseFile(token.NewFileSet(), name, nil, parser.ImportsOnly)
		if err != nil {
			t.Fatal(err)
		}
		for _, i := range file.Imports {
			if p := strings.Trim(i.Path.Value, `"`); p != "gatewright/api" && p != "gatewright/refute" {
				t.Errorf("%s imports %s", name, p)
			}
		}
	}
}
