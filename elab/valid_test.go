package elab

import (
	"reflect"
	"testing"

	"gatewright/api"
)

// checker looks whether a design is valid, as the document says.
type checker struct {
	t *testing.T
	d api.Design
}

func checkValid(t *testing.T, d api.Design) {
	t.Helper()
	c := checker{t, d}
	for _, n := range d.Nets {
		c.need(n.Width >= 1 && n.Width <= 32 && n.Words >= 0 && n.Words <= 256 && n.Init>>n.Width == 0 && (n.Words == 0 || n.Init == 0), "net", n)
	}
	dirs := make([]int, len(d.Nets))
	for _, n := range d.Inputs {
		c.need(c.isNet(n) && dirs[n] == 0, "input", n)
		dirs[n] = 1
	}
	for _, n := range d.Outputs {
		c.need(c.isNet(n) && dirs[n] == 0, "output", n)
		dirs[n] = 2
	}
	for i, n := range d.Nets {
		c.need(n.Dir == dirs[i], "direction", n)
	}
	for _, p := range d.Procs {
		c.acts(p.Acts, p.Clocked)
	}
	noSharing(t, reflect.ValueOf(d), map[uintptr]bool{})
}

func (c checker) need(holds bool, what string, of any) {
	c.t.Helper()
	if !holds {
		c.t.Fatalf("%s: %+v", what, of)
	}
}

func (c checker) isNet(n int) bool {
	return n >= 0 && n < len(c.d.Nets) && c.d.Nets[n].Words == 0
}

func (c checker) isMemory(n int) bool {
	return n >= 0 && n < len(c.d.Nets) && c.d.Nets[n].Words > 0
}

func (c checker) acts(acts []api.Act, clocked bool) {
	c.t.Helper()
	for _, a := range acts {
		if a.Kind == api.AIf {
			c.need(a.If.Width == 1 && a.To == nil && !a.Later && reflect.DeepEqual(a.Value, api.Exp{}), "if", a)
			c.exp(a.If)
			c.acts(a.Then, clocked)
			c.acts(a.Else, clocked)
			continue
		}
		c.need(a.Kind == api.ASet && a.Then == nil && a.Else == nil && reflect.DeepEqual(a.If, api.Exp{}) && (clocked || !a.Later), "set", a)
		sum := 0
		for _, d := range a.To {
			c.dest(d, a.Later)
			sum += d.Width
		}
		c.need(a.Value.Width == sum, "width of a set", a)
		c.exp(a.Value)
	}
}

func (c checker) dest(d api.Dest, later bool) {
	c.t.Helper()
	if !d.Dyn {
		c.need(c.isNet(d.Net) && d.Lo >= 0 && d.Width >= 1 && d.Lo+d.Width <= c.d.Nets[d.Net].Width && reflect.DeepEqual(d.Index, api.Exp{}), "target", d)
		return
	}
	c.exp(d.Index)
	if c.isMemory(d.Net) {
		c.need(later && d.Lo == 0 && d.Width == c.d.Nets[d.Net].Width, "word", d)
	} else {
		c.need(c.isNet(d.Net) && d.Lo == 0 && d.Width == 1, "bit", d)
	}
}

// operands tells how many Args a kind has; -1: one or more.
func operands(kind int) int {
	switch kind {
	case api.XNum, api.XNet:
		return 0
	case api.XWord, api.XBit, api.XSlice, api.XExt, api.XNot, api.XAll, api.XAny, api.XOdd:
		return 1
	case api.XCat:
		return -1
	case api.XIf:
		return 3
	}
	return 2
}

func (c checker) exp(x api.Exp) {
	c.t.Helper()
	c.need(x.Kind >= api.XNum && x.Kind <= api.XIf && x.Width >= 1 && x.Width <= 32, "expression", x)
	n := operands(x.Kind)
	c.need(n == len(x.Args) || n < 0 && len(x.Args) > 0, "operands", x)
	c.need(x.Num == 0 || x.Kind == api.XNum && x.Num>>x.Width == 0 || x.Kind == api.XSlice, "number", x)
	c.need(x.Net == 0 || x.Kind == api.XNet || x.Kind == api.XWord || x.Kind == api.XBit, "net", x)
	sum := 0
	for _, a := range x.Args {
		c.exp(a)
		sum += a.Width
	}
	width := func(i int) int { return x.Args[i].Width }
	switch x.Kind {
	case api.XNet:
		c.need(c.isNet(x.Net) && x.Width == c.d.Nets[x.Net].Width, "net", x)
	case api.XWord:
		c.need(c.isMemory(x.Net) && x.Width == c.d.Nets[x.Net].Width, "word", x)
	case api.XBit:
		c.need(c.isNet(x.Net) && x.Width == 1, "bit", x)
	case api.XSlice:
		c.need(int(x.Num)+x.Width <= width(0), "slice", x)
	case api.XCat:
		c.need(x.Width == sum, "braces", x)
	case api.XNot:
		c.need(x.Width == width(0), "not", x)
	case api.XAll, api.XAny, api.XOdd:
		c.need(x.Width == 1, "all bits", x)
	case api.XAnd, api.XOr, api.XXor, api.XAdd, api.XSub, api.XMul:
		c.need(x.Width == width(0) && x.Width == width(1), "operation", x)
	case api.XShl, api.XShr:
		c.need(x.Width == width(0), "shift", x)
	case api.XEq, api.XLt:
		c.need(x.Width == 1 && width(0) == width(1), "comparison", x)
	case api.XIf:
		c.need(width(0) == 1 && x.Width == width(1) && x.Width == width(2), "choice", x)
	}
}

// noSharing looks whether two lists of an answer share memory.
func noSharing(t *testing.T, v reflect.Value, met map[uintptr]bool) {
	t.Helper()
	switch v.Kind() {
	case reflect.Slice:
		if v.Cap() > 0 {
			if met[v.Pointer()] {
				t.Fatal("two lists share memory")
			}
			met[v.Pointer()] = true
		}
		for i := range v.Len() {
			noSharing(t, v.Index(i), met)
		}
	case reflect.Struct:
		for i := range v.NumField() {
			noSharing(t, v.Field(i), met)
		}
	}
}
