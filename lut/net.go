package lut

import "gatewright/api"

const (
	mostInputs  = 60000 // of a net
	mostOutputs = 60000
	mostLeaves  = 4 // inputs of a table
)

// firstTable is the signal of a net's first table: false, true, the inputs and the registers are ahead of it.
func firstTable(n *api.Tables) int { return 2 + n.Inputs + len(n.Init) }

// signals counts those of a net.
func signals(n *api.Tables) int { return firstTable(n) + len(n.Tables) }

// areSignals asks whether all are among the first so many signals.
func areSignals(list []int, count int) bool {
	for _, s := range list {
		if s < 0 || s >= count {
			return false
		}
	}
	return true
}

// isTable asks whether a table is one, with so many signals ahead of it.
func isTable(t *api.Table, ahead int) bool {
	return len(t.Ins) <= mostLeaves && areSignals(t.Ins, ahead) && t.Bits >= 0 && t.Bits < 1<<(1<<len(t.Ins))
}

// deepest is the depth of a valid net.
func deepest(n *api.Tables) int {
	depths := make([]int, signals(n))
	most := func(list []int) int {
		depth := 0
		for _, s := range list {
			depth = max(depth, depths[s])
		}
		return depth
	}
	for i := range n.Tables {
		depths[firstTable(n)+i] = 1 + most(n.Tables[i].Ins)
	}
	return max(most(n.Outputs), most(n.Next))
}
