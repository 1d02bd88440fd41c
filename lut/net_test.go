package lut

import (
	"math/rand"
	"reflect"
	"testing"

	"gatewright/api"
)

func TestValid(t *testing.T) {
	full := func() api.Tables {
		return api.Tables{
			Inputs:  2,
			Init:    []bool{true, false},
			Tables:  []api.Table{{Ins: []int{0, 1, 5, 5}, Bits: 65535}, {Ins: []int{6}, Bits: 3}, {Bits: 1}, {Ins: []int{8, 7}, Bits: 15}, {Ins: []int{2, 3, 4}, Bits: 255}},
			Next:    []int{0, 10},
			Outputs: []int{10, 0, 1, 1},
		}
	}
	for _, c := range []struct {
		name  string
		spoil func(n *api.Tables)
		right bool
	}{
		{"as it is", func(n *api.Tables) {}, true},
		{"nothing", func(n *api.Tables) { *n = api.Tables{} }, true},
		{"constants alone", func(n *api.Tables) { *n = api.Tables{Outputs: []int{0, 1}} }, true},
		{"more than constants", func(n *api.Tables) { *n = api.Tables{Outputs: []int{2}} }, false},
		{"as many inputs as may be", func(n *api.Tables) { *n = api.Tables{Inputs: 60000, Outputs: []int{60001}} }, true},
		{"an output beyond them", func(n *api.Tables) { *n = api.Tables{Inputs: 60000, Outputs: []int{60002}} }, false},
		{"one input too many", func(n *api.Tables) { *n = api.Tables{Inputs: 60001} }, false},
		{"as many inputs as can be counted", func(n *api.Tables) { *n = api.Tables{Inputs: 1<<63 - 1} }, false},
		{"fewer inputs than none", func(n *api.Tables) { *n = api.Tables{Inputs: -1} }, false},
		{"far fewer", func(n *api.Tables) { *n = api.Tables{Inputs: -1 << 63} }, false},
		{"as many outputs as may be", func(n *api.Tables) { n.Outputs = make([]int, 60000) }, true},
		{"one output too many", func(n *api.Tables) { n.Outputs = make([]int, 60001) }, false},
		{"many registers", func(n *api.Tables) { *n = api.Tables{Init: make([]bool, 70000), Next: make([]int, 70000)} }, true},
		{"many tables", func(n *api.Tables) { n.Tables = append(n.Tables, make([]api.Table, 70000)...); n.Outputs[0] = 70010 }, true},
		{"a Next too few", func(n *api.Tables) { n.Next = n.Next[:1] }, false},
		{"no Next", func(n *api.Tables) { n.Next = nil }, false},
		{"a Next too many", func(n *api.Tables) { n.Next = append(n.Next, 0) }, false},
		{"a Next beyond all", func(n *api.Tables) { n.Next[0] = 11 }, false},
		{"a Next below 0", func(n *api.Tables) { n.Next[1] = -1 }, false},
		{"an output beyond all", func(n *api.Tables) { n.Outputs[3] = 11 }, false},
		{"an output below 0", func(n *api.Tables) { n.Outputs[0] = -1 }, false},
		{"five inputs", func(n *api.Tables) { n.Tables[0].Ins = []int{0, 1, 5, 5, 5} }, false},
		{"a table on itself", func(n *api.Tables) { n.Tables[0].Ins[0] = 6 }, false},
		{"the last one on itself", func(n *api.Tables) { n.Tables[4].Ins[2] = 10 }, false},
		{"the last one on the one ahead", func(n *api.Tables) { n.Tables[4].Ins[2] = 9 }, true},
		{"a table on the one behind it", func(n *api.Tables) { n.Tables[1].Ins[0] = 8 }, false},
		{"a table on less than 0", func(n *api.Tables) { n.Tables[3].Ins[1] = -1 }, false},
		{"17 bits for four", func(n *api.Tables) { n.Tables[0].Bits = 65536 }, false},
		{"9 bits for three", func(n *api.Tables) { n.Tables[4].Bits = 256 }, false},
		{"5 bits for two", func(n *api.Tables) { n.Tables[3].Bits = 16 }, false},
		{"3 bits for one", func(n *api.Tables) { n.Tables[1].Bits = 4 }, false},
		{"2 bits for none", func(n *api.Tables) { n.Tables[2].Bits = 2 }, false},
		{"no bits", func(n *api.Tables) { n.Tables[2].Bits = 0 }, true},
		{"bits below 0", func(n *api.Tables) { n.Tables[0].Bits = -1 }, false},
		{"bits far below 0", func(n *api.Tables) { n.Tables[2].Bits = -1 << 63 }, false},
	} {
		n := full()
		c.spoil(&n)
		if Valid(n) != c.right {
			t.Errorf("%s: want %v", c.name, c.right)
		}
		if !c.right && (Run(n, [][]bool{{true}}) != nil || Depth(n) != 0) {
			t.Errorf("%s: something comes of what is no net", c.name)
		}
	}
}

// worthOf is what a signal is worth, from the definition alone.
func worthOf(n *api.Tables, signal int, row, registers []bool) bool {
	switch {
	case signal < 2:
		return signal == 1
	case signal < 2+n.Inputs:
		return signal-2 < len(row) && row[signal-2]
	case signal < 2+n.Inputs+len(n.Init):
		return registers[signal-2-n.Inputs]
	}
	table := n.Tables[signal-2-n.Inputs-len(n.Init)]
	k := 0
	for i := len(table.Ins) - 1; i >= 0; i-- {
		k *= 2
		if worthOf(n, table.Ins[i], row, registers) {
			k++
		}
	}
	return table.Bits/(1<<k)%2 == 1
}

// TestRun: against what the chapter says, cycle by cycle.
func TestRun(t *testing.T) {
	r := rand.New(rand.NewSource(1))
	for range 2000 {
		n := grownNet(r, r.Intn(5), r.Intn(5), r.Intn(9), r.Intn(5))
		trace := rowsOf(r, n.Inputs, r.Intn(7))
		before := netCopy(n)
		got := Run(n, trace)
		if len(got) != len(trace) || !reflect.DeepEqual(n, before) {
			t.Fatalf("%v of %+v", got, n)
		}
		registers := n.Init
		for i, row := range trace {
			want := []bool{}
			for _, o := range n.Outputs {
				want = append(want, worthOf(&n, o, row, registers))
			}
			if !reflect.DeepEqual(got[i], want) {
				t.Fatalf("cycle %d of %v: %v, want %v: %+v", i, trace, got[i], want, n)
			}
			var next []bool
			for _, s := range n.Next {
				next = append(next, worthOf(&n, s, row, registers))
			}
			registers = next
		}
	}
}

func TestRunMemory(t *testing.T) {
	n := api.Tables{Init: []bool{true, false}, Next: []int{3, 2}, Outputs: []int{2, 3}}
	rows := Run(n, [][]bool{{true}, nil, {}})
	if !reflect.DeepEqual(rows, [][]bool{{true, false}, {false, true}, {true, false}}) {
		t.Fatalf("two registers that change places: %v", rows)
	}
	rows[0] = append(rows[0][:1], false, true, true)
	if !reflect.DeepEqual(rows[1:], [][]bool{{false, true}, {true, false}}) || !n.Init[0] || n.Init[1] {
		t.Error("rows share memory")
	}
	if rows := Run(n, nil); len(rows) != 0 {
		t.Errorf("without cycles: %v", rows)
	}
	if rows := Run(api.Tables{}, make([][]bool, 3)); len(rows) != 3 || len(rows[2]) != 0 {
		t.Errorf("without outputs: %v", rows)
	}
}

// depthOf is the depth of a signal, from the definition alone.
func depthOf(n *api.Tables, signal int) int {
	at := signal - 2 - n.Inputs - len(n.Init)
	if at < 0 {
		return 0
	}
	depth := 1
	for _, s := range n.Tables[at].Ins {
		depth = max(depth, 1+depthOf(n, s))
	}
	return depth
}

func TestDepth(t *testing.T) {
	r := rand.New(rand.NewSource(2))
	for range 3000 {
		n := grownNet(r, r.Intn(3), r.Intn(3), r.Intn(9), r.Intn(3))
		want := 0
		for _, s := range append(append([]int{}, n.Outputs...), n.Next...) {
			want = max(want, depthOf(&n, s))
		}
		if got := Depth(n); got != want {
			t.Fatalf("%d, want %d: %+v", got, want, n)
		}
	}
	tables := []api.Table{{Bits: 1}, {Ins: []int{1}, Bits: 1}, {Ins: []int{4, 3}, Bits: 9}, {Ins: []int{5, 2}, Bits: 9}}
	for _, c := range []struct {
		name string
		net  api.Tables
		want int
	}{
		{"nothing", api.Tables{}, 0},
		{"what needs no table", api.Tables{Inputs: 1, Init: []bool{true}, Next: []int{2}, Outputs: []int{0, 1, 2, 3}}, 0},
		{"tables that nobody needs", api.Tables{Inputs: 1, Tables: tables, Outputs: []int{2}}, 0},
		{"a table of none", api.Tables{Inputs: 1, Tables: tables, Outputs: []int{3}}, 1},
		{"a table of a constant", api.Tables{Inputs: 1, Tables: tables, Outputs: []int{4, 0}}, 1},
		{"one behind both", api.Tables{Inputs: 1, Tables: tables, Outputs: []int{5, 3}}, 2},
		{"the last one", api.Tables{Inputs: 1, Tables: tables, Outputs: []int{6, 2}}, 3},
		{"a Next alone", api.Tables{Init: []bool{false}, Tables: tables, Next: []int{6}}, 3},
		{"a Next beside an output", api.Tables{Init: []bool{false}, Tables: tables, Next: []int{5}, Outputs: []int{3}}, 2},
	} {
		if got := Depth(c.net); got != c.want {
			t.Errorf("%s: %d, want %d", c.name, got, c.want)
		}
	}
}
