package lut

import "gatewright/api"

// firstGate is the variable of a graph's first gate.
func firstGate(g *api.Graph) int {
	return 1 + g.Inputs + len(g.Latches)
}

// ends gives the literals that outputs and latches take.
func ends(g *api.Graph) []int {
	list := append([]int(nil), g.Outputs...)
	for _, l := range g.Latches {
		list = append(list, l.Next)
	}
	return list
}
