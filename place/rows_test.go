package place

import (
	"math/rand"
	"slices"
	"testing"

	"gatewright/api"
	"gatewright/lut"
)

// TestFewRows: with fewer rows than must do, it is the right configuration or FFit.
func TestFewRows(t *testing.T) {
	r := rand.New(rand.NewSource(11))
	for range 1500 {
		n := grownNet(r, r.Intn(7), r.Intn(7), r.Intn(30), r.Intn(7), r.Intn(9))
		s := leastShape(n)
		s.Cols += r.Intn(5)
		s.Rows = 1 + r.Intn(s.Rows)
		if c, err := Fit(n, s); err == nil {
			holdConfig(t, r, n, s, c)
		} else {
			holdFault(t, "few rows", n, s)
		}
	}
}

// leastRows is the least number of rows with which tables can stand in columns, by going through all ways.
func leastRows(p *plan, i int) int {
	if i < p.first {
		i = p.first
	}
	if i == len(p.items) {
		return p.mostHeld()
	}
	least := 1 << 30
	for column := p.earliest(i); column < p.shape.Cols; column++ {
		p.items[i].column = column
		least = min(least, leastRows(p, i+1))
	}
	return least
}

// mostHeld counts what the fullest column holds.
func (p *plan) mostHeld() int {
	last := make([]int, len(p.items))
	for i := range p.items {
		if p.items[i].isEnd {
			last[i] = p.shape.Cols
		}
		for _, in := range p.items[i].ins {
			last[in] = max(last[in], p.items[i].column)
		}
	}
	loads := make([]int, p.shape.Cols)
	most := 1
	for i := range p.items {
		for column := max(0, p.items[i].column); column < last[i]; column++ {
			loads[column]++
			most = max(most, loads[column])
		}
	}
	return most
}

// TestLeastRows: of small nets hardly any needs more rows than it must, and none fits with fewer.
func TestLeastRows(t *testing.T) {
	r := rand.New(rand.NewSource(12))
	nets, missed := 0, 0
	for nets < 3000 {
		n := grownNet(r, 1+r.Intn(6), 0, 5+r.Intn(6), 1+r.Intn(3), 3+r.Intn(5))
		s := leastShape(n)
		s.Cols += r.Intn(3)
		if s.Cols > 6 {
			continue
		}
		nets++
		s.Rows = leastRows(newPlan(&n, s), 0)
		if c, err := Fit(n, s); err == nil {
			holdConfig(t, r, n, s, c)
		} else {
			missed++
		}
		if s.Rows--; s.Rows > 0 {
			holdFault(t, "fewer rows than can be", n, s)
		}
	}
	if missed > nets/1000 {
		t.Errorf("%d of %d nets do not fit where they could", missed, nets)
	}
}

// TestLoads: what a plan believes that its columns hold, they hold, wherever tables have been moved to.
func TestLoads(t *testing.T) {
	r := rand.New(rand.NewSource(16))
	for range 500 {
		n := grownNet(r, r.Intn(7), r.Intn(7), r.Intn(40), r.Intn(7), r.Intn(9))
		s := leastShape(n)
		s.Cols += r.Intn(5)
		s.Rows = 1 + r.Intn(s.Rows/2+1)
		p := newPlan(&n, s)
		p.settle()
		if len(p.items)-p.first > s.Rows*s.Cols {
			continue
		}
		for i := p.first; i < len(p.items); i++ {
			if p.items[i].column < p.earliest(i) || p.items[i].column > p.latest(i) {
				t.Fatalf("on %+v: table %d in column %d: %+v", s, i, p.items[i].column, n)
			}
		}
		if most := slices.Max(p.loads); max(1, most) != p.mostHeld() {
			t.Fatalf("on %+v: the fullest column holds %d, not %d: %+v", s, p.mostHeld(), most, n)
		}
	}
}

// TestSpreading: nets that fit with few rows only if tables are moved to where they do least harm.
func TestSpreading(t *testing.T) {
	r := rand.New(rand.NewSource(13))
	flip := api.Tables{} // registers that become their opposites
	for i := range 100 {
		flip.Init = append(flip.Init, i%3 == 0)
		flip.Next = append(flip.Next, 102+i)
		flip.Tables = append(flip.Tables, api.Table{Ins: []int{2 + i}, Bits: 1})
	}
	flip.Outputs = []int{2, 3}
	gather := api.Tables{Inputs: 64} // parities of four, and of four of these, and of four of those
	for len(gather.Tables) < 21 {
		from := 2 + 4*len(gather.Tables)
		gather.Tables = append(gather.Tables, api.Table{Ins: []int{from, from + 1, from + 2, from + 3}, Bits: 0x6996})
	}
	gather.Outputs = []int{86}
	scatter := api.Tables{Inputs: 4} // many functions of four inputs
	for i := range 60 {
		scatter.Tables = append(scatter.Tables, api.Table{Ins: []int{2, 3, 4, 5}, Bits: 1000*i + 7})
		scatter.Outputs = append(scatter.Outputs, 6+i)
	}
	both := api.Tables{Inputs: 4, Tables: scatter.Tables[:16:16]} // 16 of these, and the parity of them all
	for len(both.Tables) < 21 {
		from := 6 + 4*(len(both.Tables)-16)
		both.Tables = append(both.Tables, api.Table{Ins: []int{from, from + 1, from + 2, from + 3}, Bits: 0x6996})
	}
	both.Outputs = []int{26}
	for _, c := range []struct {
		name       string
		net        api.Tables
		rows, cols int
	}{
		{"registers that flip, one column", flip, 102, 1},
		{"registers that flip", flip, 102, 100},
		{"parities", gather, 16, 3},
		{"parities, many columns", gather, 16, 100},
		{"functions of four inputs", scatter, 60, 1},
		{"functions of four inputs, many columns", scatter, 60, 100},
		{"there and back", both, 16, 3},
		{"there and back, some columns", both, 12, 5},
		{"there and back, many columns", both, 12, 100},
	} {
		s := leastShape(c.net)
		s.Rows, s.Cols = c.rows, c.cols
		if _, err := Fit(c.net, s); err != nil {
			t.Errorf("%s: no fit on %+v", c.name, s)
			continue
		}
		holdFit(t, r, c.net, s)
	}
}

// TestFullFabric: each cell of the greatest fabric is needed; and one row less is too few.
func TestFullFabric(t *testing.T) {
	r := rand.New(rand.NewSource(14))
	n := layeredNet(r, 500, 500, 500, 100)
	s := api.Shape{Inputs: 500, Outputs: 500, Regs: 500, Rows: 500, Cols: 100}
	if len(n.Tables) != 50000 || lut.Depth(n) != 100 {
		t.Fatalf("%d tables, depth %d", len(n.Tables), lut.Depth(n))
	}
	holdFit(t, r, n, s)
	s.Rows = 499
	holdFault(t, "one row less", n, s)
	n = layeredNet(r, 400, 400, 350, 90)
	s.Rows, s.Cols = 350, 90
	holdFit(t, r, n, s)
	s.Rows, s.Cols = 500, 100
	holdFit(t, r, n, s)
}

// TestHugeNets: nets that are far too large end soon.
func TestHugeNets(t *testing.T) {
	r := rand.New(rand.NewSource(15))
	s := api.Shape{Inputs: 500, Outputs: 500, Regs: 500, Rows: 500, Cols: 100}
	for _, near := range []int{0, 3, 2000} {
		for _, tables := range []int{20000, 30000, 400000} {
			n := grownNet(r, 500, 500, tables, 500, near)
			if c, err := Fit(n, s); err == nil {
				holdConfig(t, r, n, s, c)
			} else {
				holdFault(t, "huge", n, s)
			}
		}
	}
	wide := api.Tables{Inputs: 4} // tables enough for 20 fabrics, all of them needed
	for len(wide.Tables) < 1000000 {
		wide.Tables = append(wide.Tables, api.Table{Ins: []int{2, 3, 4, 5}, Bits: len(wide.Tables) % 65536})
	}
	for level := 6; len(wide.Tables) < 1333333; level += 4 {
		wide.Tables = append(wide.Tables, api.Table{Ins: []int{level, level + 1, level + 2, level + 3}, Bits: 0x6996})
	}
	wide.Outputs = []int{6 + len(wide.Tables) - 1}
	if depth := lut.Depth(wide); depth > 100 {
		t.Fatalf("depth %d", depth)
	}
	holdFault(t, "wide", wide, s)
}
