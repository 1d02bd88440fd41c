package stream

import (
	"math"
	"math/rand"
	"testing"

	"gatewright/api"
)

// holdInvalid asks whether a configuration is refused, and has no bytes.
func holdInvalid(t *testing.T, name string, c api.Config) {
	t.Helper()
	if Valid(c) {
		t.Errorf("%s is taken", name)
	}
	if b := Encode(c); b != nil {
		t.Errorf("%s: %x", name, b)
	}
}

// TestSpoilt: in each place the numbers that just may not stand there.
func TestSpoilt(t *testing.T) {
	for name, spoil := range map[string]func(c *api.Config){
		"inputs below 0":          func(c *api.Config) { c.Shape.Inputs = -1 },
		"an input too few":        func(c *api.Config) { c.Shape.Inputs = 2 },
		"outputs below 0":         func(c *api.Config) { c.Shape.Outputs, c.Outs = -1, nil },
		"an output too few":       func(c *api.Config) { c.Outs = c.Outs[:1] },
		"an output too many":      func(c *api.Config) { c.Outs = append(c.Outs, 0) },
		"no outputs":              func(c *api.Config) { c.Outs = nil },
		"registers below 0":       func(c *api.Config) { c.Shape.Regs, c.Regs = -1, nil },
		"a register too few":      func(c *api.Config) { c.Regs = c.Regs[:1] },
		"a register too many":     func(c *api.Config) { c.Regs = append(c.Regs, api.Cfg{}) },
		"no rows":                 func(c *api.Config) { c.Shape.Rows, c.Cells = 0, [][]api.Cell{{}, {}} },
		"fewer rows than cells":   func(c *api.Config) { c.Shape.Rows = 2 },
		"more rows than cells":    func(c *api.Config) { c.Shape.Rows = 4 },
		"a cell too few":          func(c *api.Config) { c.Cells[0] = c.Cells[0][:2] },
		"a cell too many":         func(c *api.Config) { c.Cells[1] = append(c.Cells[1], api.Cell{}) },
		"a column without cells":  func(c *api.Config) { c.Cells[1] = nil },
		"no columns":              func(c *api.Config) { c.Shape.Cols, c.Cells = 0, nil },
		"fewer than the columns":  func(c *api.Config) { c.Shape.Cols = 1 },
		"more than the columns":   func(c *api.Config) { c.Shape.Cols = 3 },
		"a column too few":        func(c *api.Config) { c.Cells = c.Cells[:1] },
		"a column too many":       func(c *api.Config) { c.Cells = append(c.Cells, c.Cells[1]) },
		"no cells":                func(c *api.Config) { c.Cells = nil },
		"bits below 0":            func(c *api.Config) { c.Cells[0][0].Bits = -1 },
		"17 bits":                 func(c *api.Config) { c.Cells[1][2].Bits = 1 << 16 },
		"far too many bits":       func(c *api.Config) { c.Cells[1][2].Bits = math.MaxInt },
		"a selector below 0":      func(c *api.Config) { c.Cells[0][0].Sel[0] = -1 },
		"a last one below 0":      func(c *api.Config) { c.Cells[1][2].Sel[3] = -1 },
		"beyond the registers":    func(c *api.Config) { c.Cells[0][1].Sel[3] = 7 },
		"beyond the column":       func(c *api.Config) { c.Cells[1][0].Sel[2] = 5 },
		"far beyond the column":   func(c *api.Config) { c.Cells[1][2].Sel[1] = math.MaxInt },
		"a register's below 0":    func(c *api.Config) { c.Regs[0].Sel = -1 },
		"a register's beyond all": func(c *api.Config) { c.Regs[1].Sel = 5 },
		"an output's below 0":     func(c *api.Config) { c.Outs[0] = math.MinInt },
		"an output's beyond all":  func(c *api.Config) { c.Outs[1] = 5 },
		"far too many inputs":     func(c *api.Config) { c.Shape.Inputs = math.MaxInt },
		"far too many rows":       func(c *api.Config) { c.Shape.Rows = math.MaxInt },
		"far too few of all": func(c *api.Config) {
			c.Shape = api.Shape{Inputs: math.MinInt, Outputs: math.MinInt, Regs: math.MinInt, Rows: math.MinInt, Cols: math.MinInt}
		},
		"nothing": func(c *api.Config) { *c = api.Config{} },
	} {
		c := sixCells()
		spoil(&c)
		holdInvalid(t, name, c)
	}
	if !Valid(sixCells()) || !Valid(oneCell()) {
		t.Error("what is right is refused")
	}
}

// TestShapes: the greatest shapes, and what is beyond them by one, though all else is right.
func TestShapes(t *testing.T) {
	r := rand.New(rand.NewSource(11))
	for _, c := range []struct {
		shape api.Shape
		right bool
	}{
		{api.Shape{Rows: 1, Cols: 1}, true},
		{api.Shape{Inputs: 500, Outputs: 500, Regs: 500, Rows: 500, Cols: 100}, true},
		{api.Shape{Inputs: 501, Rows: 1, Cols: 1}, false},
		{api.Shape{Outputs: 501, Rows: 1, Cols: 1}, false},
		{api.Shape{Regs: 501, Rows: 1, Cols: 1}, false},
		{api.Shape{Rows: 501, Cols: 1}, false},
		{api.Shape{Rows: 1, Cols: 101}, false},
	} {
		config := grownConfig(r, c.shape)
		if Valid(config) != c.right {
			t.Errorf("%+v: not %v", c.shape, c.right)
		}
		if !c.right {
			holdInvalid(t, "too large a shape", config)
		}
	}
}

// TestSelectors: of any configuration each selector may be the last source, and not one more.
func TestSelectors(t *testing.T) {
	r := rand.New(rand.NewSource(12))
	for range 500 {
		c := grownConfig(r, smallShape(r))
		column := r.Intn(c.Shape.Cols)
		cell := &c.Cells[column][r.Intn(c.Shape.Rows)]
		holdLast(t, c, &cell.Sel[r.Intn(4)], sourcesOf(c.Shape, column))
		holdLast(t, c, &cell.Bits, 1<<16)
		if len(c.Regs) > 0 {
			holdLast(t, c, &c.Regs[r.Intn(len(c.Regs))].Sel, 2+c.Shape.Rows)
		}
		if len(c.Outs) > 0 {
			holdLast(t, c, &c.Outs[r.Intn(len(c.Outs))], 2+c.Shape.Rows)
		}
	}
}

// holdLast asks whether a number of a configuration may be below n, and is refused else.
func holdLast(t *testing.T, c api.Config, number *int, n int) {
	t.Helper()
	before := *number
	for _, wrong := range []int{-1, n, n + 1, 2 * n} {
		*number = wrong
		holdInvalid(t, "beyond the last one", c)
	}
	for _, right := range []int{0, 1, n - 1} {
		*number = right
		if !Valid(c) {
			t.Fatalf("%d below %d is refused: %+v", right, n, c)
		}
	}
	*number = before
}
