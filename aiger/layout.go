package aiger

import "gatewright/api"

// layout is how a graph is written.
type layout int

const (
	asText layout = iota
	asBytes
)

// word is what the first line begins with.
func (l layout) word() string {
	if l == asText {
		return "aag"
	}
	return "aig"
}

// The numbers of the first line, in their order.
const (
	variables = iota // but 0
	inputs
	latches
	outputs
	gates
	numbers // how many they are
)

// head is what the first line tells.
type head [numbers]int

// mostOutputs is how many outputs a graph may have.
const mostOutputs = 60000

func headOf(g *api.Graph) head {
	return head{
		variables: g.Inputs + len(g.Latches) + len(g.Ands),
		inputs:    g.Inputs,
		latches:   len(g.Latches),
		outputs:   len(g.Outputs),
		gates:     len(g.Ands),
	}
}

// isRight asks whether there can be a graph with such numbers.
func (h *head) isRight() bool {
	return h[variables] == h[inputs]+h[latches]+h[gates] &&
		h[variables] < api.MaxGates && h[latches] <= api.MaxLatch && h[outputs] <= mostOutputs
}

// hasLiteral asks whether a literal is of one of the variables.
func (h *head) hasLiteral(literal int) bool {
	return literal/2 <= h[variables]
}

// latch is the literal of a latch, gate that of a gate.
func (h *head) latch(i int) int {
	return 2 * (1 + h[inputs] + i)
}

func (h *head) gate(i int) int {
	return 2 * (1 + h[inputs] + h[latches] + i)
}
