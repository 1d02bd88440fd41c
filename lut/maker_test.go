package lut

import (
	"math/rand"
	"slices"

	"gatewright/api"
)

// grown makes a random graph that is valid. Literals are of any variable ahead, or (near above 0) of one of the last ones.
func grown(r *rand.Rand, inputs, latches, ands, outputs, near int) api.Graph {
	g := api.Graph{Inputs: inputs}
	literal := func(variables int) int {
		if near == 0 || r.Intn(8) == 0 {
			return r.Intn(2 * variables)
		}
		return 2*max(0, variables-1-r.Intn(near)) + r.Intn(2)
	}
	for i := range ands {
		v := 1 + inputs + latches + i
		g.Ands = append(g.Ands, [2]int{literal(v), literal(v)})
	}
	all := 1 + inputs + latches + ands
	for range latches {
		g.Latches = append(g.Latches, api.Latch{Next: literal(all), Init: r.Intn(2) == 0})
	}
	for range outputs {
		g.Outputs = append(g.Outputs, literal(all))
	}
	return g
}

// The ways in which a band goes on.
const (
	bySums = iota
	byChoices
	byParting // two signals become: the one without the other, and the other without the one
	waysOn
)

// band makes a graph of a few signals that are mixed again and again, so that a gate may have a great many cuts. Each gate is an output.
func band(r *rand.Rand, width, gates, way int) api.Graph {
	g := api.Graph{Inputs: width}
	and := func(a, b int) int {
		g.Ands = append(g.Ands, [2]int{a, b})
		return 2 * (g.Inputs + len(g.Ands))
	}
	or := func(a, b int) int { return and(a^1, b^1) ^ 1 }
	row := make([]int, width)
	for i := range row {
		row[i] = 2 * (1 + i)
	}
	for len(g.Ands) < gates {
		order := r.Perm(width)
		x, y, z := order[0], order[1], order[min(2, width-1)]
		switch way {
		case bySums:
			both := and(row[y], row[z])
			row[x] = or(and(row[x], both^1), and(row[x]^1, both))
		case byChoices:
			row[x] = or(and(row[z], row[x]), and(row[z]^1, row[y]))
		case byParting:
			row[x], row[y] = and(row[x], row[y]^1), and(row[x]^1, row[y])
			row[z] = and(row[z], row[y]) ^ r.Intn(2)
		}
	}
	g.Ands = g.Ands[:gates]
	for v := range gates {
		g.Outputs = append(g.Outputs, 2*(1+width+v))
	}
	return g
}

// chain is the and of all inputs, one behind the other, and the opposite.
func chain(inputs int) api.Graph {
	g := api.Graph{Inputs: inputs}
	last := 2
	for i := 1; i < inputs; i++ {
		g.Ands = append(g.Ands, [2]int{last, 2 * (1 + i)})
		last = 2 * (inputs + i)
	}
	g.Outputs = []int{last, last ^ 1}
	return g
}

func graphCopy(g api.Graph) api.Graph {
	g.Latches, g.Ands, g.Outputs = slices.Clone(g.Latches), slices.Clone(g.Ands), slices.Clone(g.Outputs)
	return g
}

// grownNet makes a random net of tables that is valid.
func grownNet(r *rand.Rand, inputs, registers, tables, outputs int) api.Tables {
	n := api.Tables{Inputs: inputs}
	for range registers {
		n.Init = append(n.Init, r.Intn(2) == 0)
	}
	for i := range tables {
		table := api.Table{}
		for range r.Intn(5) {
			table.Ins = append(table.Ins, r.Intn(2+inputs+registers+i))
		}
		table.Bits = r.Intn(1 << (1 << len(table.Ins)))
		n.Tables = append(n.Tables, table)
	}
	all := 2 + inputs + registers + tables
	for range registers {
		n.Next = append(n.Next, r.Intn(all))
	}
	for range outputs {
		n.Outputs = append(n.Outputs, r.Intn(all))
	}
	return n
}

func netCopy(n api.Tables) api.Tables {
	n.Init, n.Next, n.Outputs, n.Tables = slices.Clone(n.Init), slices.Clone(n.Next), slices.Clone(n.Outputs), slices.Clone(n.Tables)
	for i := range n.Tables {
		n.Tables[i].Ins = slices.Clone(n.Tables[i].Ins)
	}
	return n
}

// rowsOf makes a random trace: some rows are too short, some too long.
func rowsOf(r *rand.Rand, inputs, cycles int) [][]bool {
	trace := make([][]bool, cycles)
	for i := range trace {
		for range max(0, inputs+r.Intn(4)-2) {
			trace[i] = append(trace[i], r.Intn(2) == 0)
		}
	}
	return trace
}
