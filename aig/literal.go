package aig

import "gatewright/api"

// mostOutputs is how many outputs a graph may have.
const mostOutputs = 60000

// The literals of the variable 0.
const (
	no  = 0
	yes = 1
)

// opposite is the literal that is worth the other.
func opposite(literal int) int {
	return literal ^ 1
}

// variables counts those of a graph, 0 among them.
func variables(g *api.Graph) int {
	return firstGate(g) + len(g.Ands)
}

// firstGate is the variable of a graph's first gate.
func firstGate(g *api.Graph) int {
	return 1 + g.Inputs + len(g.Latches)
}

// isLiteral asks whether a literal is of one of so many variables.
func isLiteral(literal, variables int) bool {
	return literal >= 0 && literal < 2*variables
}
