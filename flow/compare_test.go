package flow

import (
	"math/rand"
	"reflect"
	"slices"
	"testing"

	"gatewright/api"
	"gatewright/equal"
	"gatewright/judge"
	"gatewright/parse"
)

// holdVerdict looks at a verdict on two modules by what Simulate tells of them, and by the judge.
func holdVerdict(t *testing.T, m *maker, text, one, other string, widths []int, v api.Verdict) {
	t.Helper()
	trace := m.trace(20)
	switch v.Kind {
	case api.VSame:
		if !judge.Holds(graphOf(t, text, one), graphOf(t, text, other), v.Cert) {
			t.Fatalf("the judge does not take it: %s", text)
		}
	case api.VDiffer:
		trace = trace[:0]
		for _, bits := range v.Trace {
			trace = append(trace, wordsOf(bits, widths))
		}
	}
	a, err := Simulate(text, one, trace, m.order())
	hold(t, "Simulate", err, nil)
	b, err := Simulate(text, other, trace, m.order())
	hold(t, "Simulate", err, nil)
	for i := range trace {
		if part := v.Kind == api.VDiffer && i == len(trace)-1; v.Kind != api.VOpen && slices.Equal(a[i], b[i]) == part {
			t.Fatalf("kind %d, cycle %d: %v and %v: %s", v.Kind, i, a[i], b[i], text)
		}
	}
}

// TestCompare: pairs of modules of which it is known whether they part, and when.
func TestCompare(t *testing.T) {
	const text = `module count (input en, input [2:0] by, output [2:0] q); reg [2:0] r; assign q = r; always @clk if (en) r <= r + by; endmodule
module down (input en, input [2:0] by, output [2:0] q); reg [2:0] r = 7; assign q = ~r; always @clk r <= en ? r - by : r; endmodule
module once (input en, input [2:0] by, output [2:0] q); reg [2:0] r; assign q = r; always @clk if (en && r != 5) r <= r + by; endmodule
module slow (input en, input [2:0] by, output [2:0] q); reg [2:0] r; reg [2:0] n; assign q = n == 6 ? 0 : r; always @clk begin n <= n + 1; if (en) r <= r + by; end endmodule
module wide (input en, input [2:0] by, output [3:0] q); assign q = by; endmodule
module other (input en, input [3:0] by, output [2:0] q); assign q = by; endmodule
`
	m := &maker{Rand: rand.New(rand.NewSource(41))}
	for _, c := range []struct {
		one, other          string
		depth, kind, cycles int
	}{
		{"count", "count", 0, api.VSame, 0},
		{"count", "down", 5, api.VSame, 0},
		{"down", "count", 50, api.VSame, 0},
		{"count", "once", 50, api.VDiffer, 3},
		{"once", "count", 3, api.VDiffer, 3},
		{"count", "slow", 7, api.VDiffer, 7},
		{"slow", "count", 50, api.VDiffer, 7},
		{"count", "slow", 6, api.VOpen, 0},
		{"count", "slow", 0, api.VOpen, 0},
		{"count", "slow", -9, api.VOpen, 0},
		{"count", "wide", 9, api.VOpen, 0},
		{"count", "other", 9, api.VOpen, 0},
	} {
		v, err := Compare(text, c.one, c.other, c.depth)
		hold(t, "Compare", err, nil)
		if v.Kind != c.kind || len(v.Trace) != c.cycles {
			t.Errorf("%s, %s, depth %d: kind %d, %d cycles", c.one, c.other, c.depth, v.Kind, len(v.Trace))
		}
		if c.kind != api.VOpen {
			holdVerdict(t, m, text, c.one, c.other, []int{1, 3}, v)
		}
	}
}

// rewriter tells a module in other words that mean the same.
type rewriter struct {
	*rand.Rand
	spoils int // in how many places more it shall mean something else
}

func (w *rewriter) exprs(list []api.Expr) []api.Expr {
	var all []api.Expr
	for _, e := range list {
		all = append(all, w.expr(e))
	}
	return all
}

func not(op int, e api.Expr) api.Expr { return api.Expr{Kind: api.EUnary, Op: op, Args: []api.Expr{e}} }

func (w *rewriter) expr(e api.Expr) api.Expr {
	e.Args = w.exprs(e.Args)
	if w.Intn(2) == 0 {
		return e
	}
	switch {
	case e.Kind == api.EBinary && w.spoils > 0 && e.Op >= api.OpAnd && e.Op <= api.OpOr:
		w.spoils--
		e.Op = api.OpAnd + (e.Op-api.OpAnd+1)%3
	case e.Kind == api.EBinary && e.Op == api.OpAnd:
		e.Op, e.Args = api.OpOr, []api.Expr{not(api.OpNot, e.Args[1]), not(api.OpNot, e.Args[0])}
		return not(api.OpNot, e)
	case e.Kind == api.EBinary && slices.Contains([]int{api.OpAdd, api.OpOr, api.OpXor, api.OpEq, api.OpNe, api.OpBoth, api.OpOne}, e.Op):
		slices.Reverse(e.Args)
	case e.Kind == api.EBinary && e.Op == api.OpLt:
		slices.Reverse(e.Args)
		e.Op = api.OpGt
	case e.Kind == api.ECond:
		e.Args = []api.Expr{not(api.OpNo, e.Args[0]), e.Args[2], e.Args[1]}
	}
	return e
}

func (w *rewriter) stmts(list []api.Stmt) []api.Stmt {
	var all []api.Stmt
	for _, s := range list {
		all = append(all, w.stmt(s))
	}
	return all
}

func (w *rewriter) stmt(s api.Stmt) api.Stmt {
	s.Exprs, s.Stmts = w.exprs(s.Exprs), w.stmts(s.Stmts)
	if s.Kind == api.SIf && len(s.Stmts) == 2 {
		s.Exprs[0] = not(api.OpNo, s.Exprs[0])
		slices.Reverse(s.Stmts)
	}
	return s
}

// twin gives the last module of a text, m, in other words, as the module n.
func (w *rewriter) twin(t *testing.T, text string) string {
	ms, err := parse.Text(text)
	hold(t, "Text", err, nil)
	m := ms[len(ms)-1]
	m.Name = "n"
	for i := range m.Items {
		m.Items[i].Value = w.expr(m.Items[i].Value)
		m.Items[i].Body = w.stmt(m.Items[i].Body)
	}
	return parse.Print([]api.Module{m})
}

// TestTwins: modules in other words are the same, as far as it is told; where something else is meant, they part, or the judge says that they do not.
func TestTwins(t *testing.T) {
	r := rand.New(rand.NewSource(42))
	m := &maker{Rand: r}
	kinds := [2][3]int{}
	for i := range 240 {
		text := m.text()
		text += (&rewriter{r, i % 2}).twin(t, text)
		v, err := Compare(text, "m", "n", 8)
		hold(t, "Compare", err, nil)
		holdVerdict(t, m, text, "m", "n", []int{3, 1, 2}, v)
		hold(t, "the verdict", v, equal.Check(graphOf(t, text, "m"), graphOf(t, text, "n"), 8))
		again, _ := Compare(text, "m", "n", 8)
		if !reflect.DeepEqual(v, again) {
			t.Errorf("another verdict: %s", text)
		}
		kinds[i%2][v.Kind]++
	}
	if kinds[0][api.VSame] != 120 {
		t.Errorf("twins: %v", kinds[0])
	}
	if kinds[1][api.VSame] == 0 || kinds[1][api.VDiffer] < 20 {
		t.Errorf("spoilt twins: %v", kinds[1])
	}
}
