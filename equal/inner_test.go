package equal

import (
	"math"
	"math/rand"
	"reflect"
	"slices"
	"testing"

	"gatewright/api"
	"gatewright/judge"
	"gatewright/pattern"
	"gatewright/sat"
)

func TestTurn(t *testing.T) {
	r := rand.New(rand.NewSource(11))
	for range 20 {
		var rows [64]uint64
		for i := range rows {
			rows[i] = r.Uint64() >> r.Intn(64)
		}
		columns := rows
		turn(&columns)
		for i := range rows {
			for k := range rows {
				if rows[i]>>k&1 != columns[k]>>i&1 {
					t.Fatalf("row %d, column %d", i, k)
				}
			}
		}
	}
}

func TestFill(t *testing.T) {
	for bits := range pattern.BlockBits + 1 {
		count := 1 << bits
		for from := 0; from < 1<<pattern.BlockBits; from += count {
			var b pattern.Block
			fill(&b, from, count)
			for at := range 1 << pattern.BlockBits {
				if (b[at/64]>>(at%64)&1 == 1) != (at >= from && at < from+count) {
					t.Fatalf("%d from %d: pattern %d", count, from, at)
				}
			}
		}
	}
}

// twoOf makes a random graph and another one that is alike, and the same or not.
func twoOf(r *rand.Rand, inputs, latches, ands, outputs int) (a, b api.Graph) {
	a = grown(r, inputs, latches, ands, outputs, []int{0, 4, 12}[r.Intn(3)])
	b = moved(r, retold(r, a))
	for range r.Intn(4) {
		b = spoilt(r, b)
	}
	return a, b
}

// TestSeekers: each of those who look for a trace by itself, with little work at a time or all at once, against all traces there are.
func TestSeekers(t *testing.T) {
	r := rand.New(rand.NewSource(12))
	lengths := map[int]int{}
	for i := range 2500 {
		a, b := twoOf(r, r.Intn(4), r.Intn(6), r.Intn(50), 1+r.Intn(3))
		at := partAt(&a, &b)
		j := join(a, b)
		renewed := itself
		if l := j.newLasting(j.tryOut().classes); i%2 == 0 && l.goOn(1<<30) {
			renewed = l.lead()
		}
		outputs := j.unlike(renewed)
		c := j.coreOf(outputs, renewed)
		first := []int{1, 5000, math.MaxInt / 2}[i%3]
		depth := []int{mostDepth, r.Intn(6), max(0, at-1), at}[r.Intn(4)]
		room := make([]pattern.Block, c.variables())
		walker := newStates(c, mostStates)
		var trace [][]bool
		for trace == nil && walker.agreed() < depth {
			trace = walker.seek(first, depth, room)
		}
		holdTrace(t, a, b, trace, at, depth)
		layer := newFrames(c, true)
		layer.matches = []int{0, mostMatches}[r.Intn(2)]
		agreed := make([]int, len(outputs))
		trace = nil
		for work := first; trace == nil && layer.cycle < depth; work += work/2 + 1 {
			trace = layer.seek(work, depth, agreed)
		}
		holdTrace(t, a, b, trace, at, depth)
		lengths[len(trace)]++
	}
	if lengths[0] < 300 || lengths[1] < 300 || lengths[2] < 50 || lengths[3] < 10 || lengths[4] < 2 {
		t.Errorf("lengths of traces: %v", lengths)
	}
}

// holdTrace fails unless there is a trace that is as short as can be, if they part within the depth.
func holdTrace(t *testing.T, a, b api.Graph, trace [][]bool, at, depth int) {
	t.Helper()
	switch {
	case at > 0 && at <= depth && len(trace) == at:
		holdVerdict(t, a, b, depth, api.Verdict{Kind: api.VDiffer, Trace: trace})
	case (at == 0 || at > depth) && trace == nil:
	default:
		t.Fatalf("%d cycles, want %d, depth %d: %+v and %+v", len(trace), at, depth, a, b)
	}
}

// TestAgreed: what is known of outputs is not asked again.
func TestAgreed(t *testing.T) {
	a, b := counters(3, 5, 7)
	j := join(a, b)
	c := j.coreOf(j.outputs, itself)
	f := newFrames(c, true)
	if trace := f.seek(math.MaxInt/2, 20, []int{20}); trace != nil || f.cycle != 20 {
		t.Errorf("a trace of %d cycles", len(trace))
	}
	f = newFrames(c, true)
	agreed := []int{5}
	if trace := f.seek(math.MaxInt/2, 20, agreed); len(trace) != 8 || agreed[0] != 7 {
		t.Errorf("a trace of %d cycles, %d are known", len(trace), agreed[0])
	}
}

// TestJoined: an output that does not part is one from then on, as it is, not its opposite.
func TestJoined(t *testing.T) {
	a, b, x := two(1)
	for _, m := range []*maker{a, b} {
		l := m.latches(1)
		next := m.xor(x[0], l[0])
		if m == b {
			next = m.and(m.nandXor(x[0], l[0]), m.or(x[0], l[0]))
		}
		m.next(l, []int{next})
		m.out(next^1, l[0])
	}
	j := join(a.Graph, b.Graph)
	f := newFrames(j.coreOf(j.outputs, itself), true)
	f.matches = 0
	if trace := f.seek(math.MaxInt/2, 20, make([]int, 2)); trace != nil || f.cycle != 20 {
		t.Errorf("a trace: %v", trace)
	}
}

// TestManyStates: where there are too many of them nothing is told that is not known.
func TestManyStates(t *testing.T) {
	a, b := counters(1, 20, 40)
	j := join(a, b)
	c := j.coreOf(j.outputs, itself)
	room := make([]pattern.Block, c.variables())
	s := newStates(c, 30)
	if trace := s.seek(math.MaxInt/2, 50, room); trace != nil || s.agreed() > 30 || s.agreed() < 25 {
		t.Errorf("a trace of %d cycles, %d are known", len(trace), s.agreed())
	}
	a, b = counters(mostInputBits+1, 4, 3)
	j = join(a, b)
	c = j.coreOf(j.outputs, itself)
	s = newStates(c, mostStates)
	if trace := s.seek(math.MaxInt/2, 50, make([]pattern.Block, c.variables())); trace != nil || s.agreed() != 0 {
		t.Errorf("a trace of %d cycles, %d are known", len(trace), s.agreed())
	}
	// A ring that is gone round: from then on all is known.
	a, b = filters(2, 3)
	j = join(a, b)
	c = j.coreOf(j.outputs, itself)
	s = newStates(c, mostStates)
	if trace := s.seek(math.MaxInt/2, 50, make([]pattern.Block, c.variables())); trace != nil || s.agreed() != mostDepth || len(s.list) != 8 {
		t.Errorf("a trace of %d cycles, %d are known, %d states", len(trace), s.agreed(), len(s.list))
	}
}

// TestLasting: what is the same for ever is so in all states that can be met.
func TestLasting(t *testing.T) {
	r := rand.New(rand.NewSource(13))
	found := 0
	for range 1500 {
		a, b := twoOf(r, r.Intn(3), 1+r.Intn(5), r.Intn(50), 1+r.Intn(3))
		j := join(a, b)
		l := j.newLasting(j.tryOut().classes)
		l.most = []int{1, 40, 200, 1 << 30}[r.Intn(4)]
		if !l.goOn(1 << 40) {
			continue
		}
		pairs := l.pairs()
		found += len(pairs)
		for _, values := range valuesMet(&j.graph) {
			for _, p := range pairs {
				if values[p[0]/2] != (p[0]%2 == 1) != (values[p[1]/2] != (p[1]%2 == 1)) {
					t.Fatalf("%v are not the same: %+v", p, j.graph)
				}
			}
		}
		cert, isSame := l.cert()
		if isSame && !judge.Holds(a, b, cert) {
			t.Fatalf("%+v does not hold of %+v and %+v", cert, a, b)
		}
	}
	if found < 10000 {
		t.Errorf("%d pairs", found)
	}
}

// valuesMet tells what all variables of a graph are worth in all states that can be met, at all inputs.
func valuesMet(g *api.Graph) [][]bool {
	var all [][]bool
	met := map[int]int{firstOf(g): 1}
	waiting := []int{firstOf(g)}
	for len(waiting) > 0 {
		state := waiting[0]
		waiting = waiting[1:]
		for inputs := range 1 << g.Inputs {
			h := *g
			h.Outputs = nil
			for v := range 1 + g.Inputs + len(g.Latches) + len(g.Ands) {
				h.Outputs = append(h.Outputs, 2*v)
			}
			values, next := worthOf(&h, inputs, state)
			all = append(all, values)
			if met[next] == 0 {
				met[next] = 1
				waiting = append(waiting, next)
			}
		}
	}
	return all
}

// TestHardLasting: with so little work for a question that it may be left open, less is found, and nothing wrong.
func TestHardLasting(t *testing.T) {
	a, b := histories(3, 4)
	j := join(a, b)
	classes := j.tryOut().classes
	last := -1
	for _, most := range []int{1, 1 << 10, 1 << 24} {
		l := j.newLasting(classes)
		l.most = most
		if !l.goOn(1<<40) || l.found <= last {
			t.Fatalf("%d pairs, with less work %d", l.found, last)
		}
		last = l.found
		if _, isSame := l.cert(); isSame != (most > 1<<20) || l.isOver != isSame {
			t.Errorf("work %d: %v, %v", most, isSame, l.isOver)
		}
	}
	l := j.newLasting(classes)
	if l.goOn(1000) {
		t.Error("all is found with hardly any work")
	}
}

// TestStill: by itself, against all inputs and latches.
func TestStill(t *testing.T) {
	r := rand.New(rand.NewSource(14))
	kinds := map[bool]int{}
	for range 2000 {
		a := grown(r, r.Intn(5), r.Intn(5), r.Intn(50), r.Intn(4), []int{0, 4, 12}[r.Intn(3)])
		b := retold(r, a)
		for range r.Intn(3) {
			b = spoilt(r, b)
		}
		s := join(a, b).newStill()
		var cert api.Cert
		isSame := false
		for !isSame && !s.isOver {
			cert, isSame = s.goOn(1 + r.Intn(3000))
		}
		kinds[isSame]++
		if sameStill(&a, &b) && !isSame {
			t.Fatalf("not found to be the same: %+v and %+v", a, b)
		}
		if isSame && (!judge.Holds(a, b, cert) || partAt(&a, &b) > 0) {
			t.Fatalf("%+v of %+v and %+v", cert, a, b)
		}
	}
	if kinds[false] < 200 || kinds[true] < 200 {
		t.Errorf("the same or not: %v", kinds)
	}
}

// TestGrouped: each output is in one group, and hangs on nothing on which its first one does not.
func TestGrouped(t *testing.T) {
	r := rand.New(rand.NewSource(15))
	for range 300 {
		a, b := twoOf(r, 1+r.Intn(6), r.Intn(8), r.Intn(40), 1+r.Intn(8))
		j := join(a, b)
		outputs := j.unlike(itself)
		var all []int
		for _, g := range j.grouped(outputs, itself) {
			all = append(all, g...)
			whole := j.needed([][2]int{outputs[g[0]]}, itself)
			for _, i := range g {
				for v, isNeeded := range j.needed([][2]int{outputs[i]}, itself) {
					if isNeeded && !whole[v] {
						t.Fatalf("output %d hangs on %d: %+v", i, v, j.graph)
					}
				}
			}
		}
		slices.Sort(all)
		for i := range max(len(all), len(outputs)) {
			if i >= len(all) || all[i] != i {
				t.Fatalf("%v are in groups, of %d", all, len(outputs))
			}
		}
	}
	a, b := queues(2, 4)
	j := join(a, b)
	if groups := j.grouped(j.outputs, itself); len(groups) != 4 {
		t.Errorf("groups of wide queues: %v", groups)
	}
	j = join(api.Graph{Outputs: make([]int, 1000)}, api.Graph{Outputs: make([]int, 1000)})
	if groups := j.grouped(j.outputs, itself); len(groups) != 1 || len(groups[0]) != 1000 {
		t.Errorf("%d groups of many outputs", len(groups))
	}
}

func TestUnlike(t *testing.T) {
	a := api.Graph{Inputs: 3, Outputs: []int{2, 3, 4, 6, 7, 5, 0, 1}}
	b := api.Graph{Inputs: 3, Outputs: []int{2, 5, 2, 2, 3, 2, 1, 0}}
	j := join(a, b)
	if got := j.unlike(itself); !reflect.DeepEqual(got, [][2]int{{0, 1}, {2, 4}, {2, 5}, {2, 6}}) {
		t.Error(got)
	}
	if got := j.unlike(func(literal int) int { return literal % 2 }); !reflect.DeepEqual(got, [][2]int{{0, 1}}) {
		t.Error(got)
	}
}

// TestUnrolled: whatever is made one, each literal is worth what it is to be, at all inputs.
func TestUnrolled(t *testing.T) {
	r := rand.New(rand.NewSource(16))
	merged := 0
	for range 200 {
		u := newUnrolled()
		u.last = math.MaxInt
		tables := []uint64{0} // by literal that was given: its worth at all of 64 patterns
		given := []int{0}
		for range 1 + r.Intn(6) {
			given = append(given, u.input())
			var table uint64
			for k := range 64 {
				table |= uint64(k>>(len(given)-2)&1) << k
			}
			tables = append(tables, table)
		}
		for range 80 {
			i, k := r.Intn(len(given)), r.Intn(len(given))
			x, y := r.Intn(2), r.Intn(2)
			one, other := tables[i]^-uint64(x), tables[k]^-uint64(y)
			switch r.Intn(3) {
			case 0:
				given, tables = append(given, u.and(given[i]^x, given[k]^y)), append(tables, one&other)
			case 1:
				given, tables = append(given, u.or(given[i]^x, given[k]^y)), append(tables, one|other)
			default:
				given, tables = append(given, u.xor(given[i]^x, given[k]^y)), append(tables, one^other)
			}
		}
		holdTables(t, u, given, tables)
		merged += len(u.same) - len(u.inputs)
	}
	if merged == 0 {
		t.Error("no gates")
	}
}

// holdTables fails unless literals are worth what is told, in a model of each pattern; and the same is told but once.
func holdTables(t *testing.T, u *unrolled, given []int, tables []uint64) {
	t.Helper()
	for k := range 1 << len(u.inputs) {
		var literals []int
		for i, v := range u.inputs {
			literals = append(literals, (v+1)*(2*(k>>i&1)-1))
		}
		if u.session.Ask(math.MaxInt, literals...) != sat.Possible {
			t.Fatal("no model")
		}
		for i, literal := range given {
			if u.session.IsTrue(number(literal)) != (tables[i]>>k&1 == 1) || u.session.IsTrue(number(u.renewed(literal))) != (tables[i]>>k&1 == 1) {
				t.Fatalf("literal %d at pattern %d", literal, k)
			}
		}
	}
	met := map[uint64]int{}
	for i, table := range tables {
		literal := u.renewed(given[i])
		if first, isThere := met[table]; isThere && first != literal {
			t.Fatalf("%d and %d are the same", first, literal)
		}
		met[table] = literal
	}
}

// TestRare: gates that are hardly ever true are not taken for one another, nor for a constant.
func TestRare(t *testing.T) {
	for _, isDown := range []bool{false, true} {
		u := newUnrolled()
		u.last = math.MaxInt
		var inputs, all []int
		for range 60 {
			inputs = append(inputs, u.input())
		}
		for i := range 20 {
			count := 40 + i
			if isDown {
				count = 60 - i
			}
			x := 1
			for _, l := range inputs[:count] {
				x = u.and(l, x)
			}
			all = append(all, u.renewed(x), u.renewed(u.or(x, inputs[59])))
		}
		slices.Sort(all)
		if len(slices.Compact(all)) != 40 || all[0] < 2 {
			t.Errorf("made one: %v", all)
		}
	}
}

// TestMatcher: where patterns tell nothing apart, the solver does, one way and the other.
func TestMatcher(t *testing.T) {
	r := rand.New(rand.NewSource(18))
	for range 300 {
		a := grown(r, r.Intn(4), r.Intn(3), r.Intn(40), 1+r.Intn(3), []int{0, 6}[r.Intn(2)])
		b := grown(r, a.Inputs, r.Intn(3), r.Intn(40), len(a.Outputs), 0)
		j := join(a, b)
		f := judge.Formula(a, b, nil, 2)
		s := sat.NewSession(true)
		s.Add(f.Vars, f.Clauses[:len(f.Clauses)-1]...)
		// All heads are false, and what is true then is turned: so all variables are in one class.
		values := make([]pattern.Block, j.size)
		pattern.Run(values, j.graph.Ands)
		m := j.newMatcher(s, 0, pattern.NewClasses(values), nil)
		m.pass(math.MaxInt, math.MaxInt)
		g := j.graph
		g.Inputs, g.Latches, g.Outputs = j.first-1, nil, nil
		for v := range j.size {
			g.Outputs = append(g.Outputs, 2*v)
		}
		first := map[string]int{}
		tables := make([][]byte, j.size) // of each variable: where it is another than there
		for inputs := range 1 << g.Inputs {
			row, _ := worthOf(&g, inputs, 0)
			for v, is := range row {
				if is != (values[v][0]&1 == 1) {
					tables[v] = append(tables[v], byte(inputs>>8), byte(inputs))
				}
			}
		}
		for v, table := range tables {
			w, isThere := first[string(table)]
			if !isThere {
				w = v
				first[string(table)] = v
			}
			if m.lead(2*v)/2 != w || m.isOpen(v) {
				t.Fatalf("%d is %d, found to be %d: %+v", v, w, m.lead(2*v)/2, j.graph)
			}
		}
	}
}

// TestAnew: a hunt that begins anew knows what was known.
func TestAnew(t *testing.T) {
	a, b := counters(3, 6, 30)
	j := join(a, b)
	trace := make([][]bool, 45)
	for i := range trace {
		trace[i] = []bool{true, true, true}
	}
	c := &contest{joint: j, isUnlike: true, still: &still{isOver: true}, lasting: j.newLasting(j.tryOut().classes), hunt: j.newHunt(50, itself)}
	before := c.hunt
	c.hunt.take(trace)
	if _, isSame := c.certify(1, 1<<30); isSame || c.hunt == before || c.hunt.depth != 44 || len(c.hunt.trace) != 45 {
		t.Errorf("%d cycles are known, %d to be looked at", len(c.hunt.trace), c.hunt.depth)
	}
	if got := c.untilParting(c.hunt.trace); len(got) != 31 {
		t.Errorf("they part in cycle %d", len(got))
	}
	if v := c.decide(); len(v.Trace) != 31 {
		t.Errorf("%d cycles", len(v.Trace))
	}
}

// TestTrial: the trace of a trial is one; what it tells apart is not the same.
func TestTrial(t *testing.T) {
	r := rand.New(rand.NewSource(17))
	traces := 0
	for range 500 {
		a, b := twoOf(r, r.Intn(4), r.Intn(6), r.Intn(50), 1+r.Intn(3))
		j := join(a, b)
		tried := j.tryOut()
		if tried.trace != nil {
			traces++
			holdVerdict(t, a, b, trialCycles, api.Verdict{Kind: api.VDiffer, Trace: tried.trace})
		}
		for v := range j.size {
			if tried.classes.IsAlone(v) {
				continue
			}
			if first := tried.classes.Of(v); !j.isNeeded[v] || first > v {
				t.Fatalf("%d is in class %d: %+v", v, first, j.graph)
			}
		}
	}
	if traces < 50 {
		t.Errorf("%d traces", traces)
	}
}

// TestWhole: up to which size all is told.
func TestWhole(t *testing.T) {
	for _, c := range []struct {
		inputs, outputs int
		isWhole         bool
	}{
		{0, 0, true}, {550, 24, true}, {598, 1, true}, {599, 0, true}, {599, 1, false}, {600, 0, false},
	} {
		g := api.Graph{Inputs: c.inputs, Outputs: make([]int, c.outputs)}
		if join(g, g).isWhole() != c.isWhole {
			t.Errorf("%d inputs, %d outputs", c.inputs, c.outputs)
		}
	}
}
