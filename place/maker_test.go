package place

import (
	"math/rand"
	"slices"

	"gatewright/api"
	"gatewright/lut"
)

// grownNet makes a random net of tables that is valid. Inputs of tables are any signals ahead, or (near above 0) mostly some of the last ones.
func grownNet(r *rand.Rand, inputs, registers, tables, outputs, near int) api.Tables {
	n := api.Tables{Inputs: inputs}
	signal := func(ahead int) int {
		if near == 0 || r.Intn(8) == 0 {
			return r.Intn(ahead)
		}
		return max(0, ahead-1-r.Intn(near))
	}
	for range registers {
		n.Init = append(n.Init, r.Intn(2) == 0)
	}
	for i := range tables {
		table := api.Table{}
		for range r.Intn(5) {
			table.Ins = append(table.Ins, signal(2+inputs+registers+i))
		}
		table.Bits = r.Intn(1 << (1 << len(table.Ins)))
		n.Tables = append(n.Tables, table)
	}
	all := 2 + inputs + registers + tables
	for range registers {
		n.Next = append(n.Next, signal(all))
	}
	for range outputs {
		n.Outputs = append(n.Outputs, signal(all))
	}
	return n
}

// chainNet is a row of inverters, one behind the other, of one input.
func chainNet(tables int) api.Tables {
	n := api.Tables{Inputs: 1}
	for i := range tables {
		n.Tables = append(n.Tables, api.Table{Ins: []int{2 + i}, Bits: 1})
	}
	n.Outputs = []int{2 + tables}
	return n
}

// layeredNet has layers of tables, each of which takes four signals of the layer ahead; all of the last one are outputs, as many as there are registers are Next.
func layeredNet(r *rand.Rand, inputs, registers, width, layers int) api.Tables {
	n := api.Tables{Inputs: inputs}
	from, count := 2, inputs+registers
	for range layers {
		for i := range width {
			ins := []int{from + i%count, from + r.Intn(count), from + r.Intn(count), from + r.Intn(count)}
			n.Tables = append(n.Tables, api.Table{Ins: ins, Bits: r.Intn(1 << 16)})
		}
		from, count = from+count, width
	}
	for i := range width {
		n.Outputs = append(n.Outputs, from+i)
	}
	for i := range registers {
		n.Init = append(n.Init, r.Intn(2) == 0)
		n.Next = append(n.Next, from+i%width)
	}
	return n
}

// leastShape is the smallest one on which a net must fit.
func leastShape(n api.Tables) api.Shape {
	return api.Shape{
		Inputs:  n.Inputs,
		Outputs: len(n.Outputs),
		Regs:    len(n.Init),
		Rows:    max(1, n.Inputs+len(n.Init)+len(n.Tables)),
		Cols:    max(1, lut.Depth(n)),
	}
}

func netCopy(n api.Tables) api.Tables {
	n.Init, n.Next, n.Outputs, n.Tables = slices.Clone(n.Init), slices.Clone(n.Next), slices.Clone(n.Outputs), slices.Clone(n.Tables)
	for i := range n.Tables {
		n.Tables[i].Ins = slices.Clone(n.Tables[i].Ins)
	}
	return n
}

// rowsOf makes a random trace.
func rowsOf(r *rand.Rand, inputs, cycles int) [][]bool {
	trace := make([][]bool, cycles)
	for i := range trace {
		trace[i] = make([]bool, inputs)
		for k := range trace[i] {
			trace[i][k] = r.Intn(2) == 0
		}
	}
	return trace
}
