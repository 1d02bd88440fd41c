package judge

import "gatewright/api"

const mostOutputs = 60000 // of a graph

// areAlike asks whether two graphs are valid, with equally many inputs and equally many outputs.
func areAlike(a, b *api.Graph) bool {
	return isValid(a) && isValid(b) && a.Inputs == b.Inputs && len(a.Outputs) == len(b.Outputs)
}

func isValid(g *api.Graph) bool {
	isSmall := g.Inputs >= 0 && g.Inputs < api.MaxGates && len(g.Ands) < api.MaxGates &&
		len(g.Latches) <= api.MaxLatch && len(g.Outputs) <= mostOutputs && variables(g) <= api.MaxGates
	if !isSmall {
		return false
	}
	for i, and := range g.Ands {
		ahead := firstGate(g) + i
		if !isLiteral(and[0], ahead) || !isLiteral(and[1], ahead) {
			return false
		}
	}
	for _, l := range g.Latches {
		if !isLiteral(l.Next, variables(g)) {
			return false
		}
	}
	for _, o := range g.Outputs {
		if !isLiteral(o, variables(g)) {
			return false
		}
	}
	return true
}

// firstGate is the variable of a graph's first gate.
func firstGate(g *api.Graph) int { return 1 + g.Inputs + len(g.Latches) }

// variables counts those of a graph, 0 among them.
func variables(g *api.Graph) int { return firstGate(g) + len(g.Ands) }

// isLiteral asks whether a literal is of one of the first so many variables.
func isLiteral(literal, variables int) bool { return literal >= 0 && literal < 2*variables }

func areLiterals(g *api.Graph, pairs [][2]int) bool {
	for _, p := range pairs {
		if !isLiteral(p[0], variables(g)) || !isLiteral(p[1], variables(g)) {
			return false
		}
	}
	return true
}

// joined is the joint graph. It may be larger than a valid one.
func joined(a, b *api.Graph) api.Graph {
	g := api.Graph{
		Inputs:  a.Inputs,
		Latches: make([]api.Latch, 0, len(a.Latches)+len(b.Latches)),
		Ands:    make([][2]int, 0, len(a.Ands)+len(b.Ands)),
		Outputs: make([]int, 0, len(a.Outputs)+len(b.Outputs)),
	}
	take(&g, a, 0, len(b.Latches))
	take(&g, b, len(a.Latches), len(a.Latches)+len(a.Ands))
	return g
}

// take lays a graph behind what is in a joint one: its latches and its gates get numbers that are greater by so many.
func take(g, part *api.Graph, forLatches, forGates int) {
	moved := func(literal int) int {
		switch v := literal / 2; {
		case v <= part.Inputs:
			return literal
		case v < firstGate(part):
			return literal + 2*forLatches
		}
		return literal + 2*forGates
	}
	for _, l := range part.Latches {
		g.Latches = append(g.Latches, api.Latch{Next: moved(l.Next), Init: l.Init})
	}
	for _, and := range part.Ands {
		g.Ands = append(g.Ands, [2]int{moved(and[0]), moved(and[1])})
	}
	for _, o := range part.Outputs {
		g.Outputs = append(g.Outputs, moved(o))
	}
}
