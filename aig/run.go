package aig

import "gatewright/api"

// machine is a graph that runs.
type machine struct {
	*api.Graph
	values []bool // of the variables
}

func start(g *api.Graph) *machine {
	m := &machine{g, make([]bool, variables(g))}
	for i := range g.Latches {
		m.values[1+g.Inputs+i] = g.Latches[i].Init
	}
	return m
}

func (m *machine) worth(literal int) bool {
	return m.values[literal/2] != (literal%2 == 1)
}

// workOut tells what all variables are worth in a cycle.
func (m *machine) workOut(row []bool) {
	inputs := m.values[1 : 1+m.Inputs]
	clear(inputs)
	copy(inputs, row)
	gates := m.values[firstGate(m.Graph):]
	for i, and := range m.Ands {
		gates[i] = m.worth(and[0]) && m.worth(and[1])
	}
}

func (m *machine) told() []bool {
	row := make([]bool, len(m.Outputs))
	for i, o := range m.Outputs {
		row[i] = m.worth(o)
	}
	return row
}

// clock sets all latches at one time.
func (m *machine) clock() {
	next := make([]bool, len(m.Latches))
	for i := range m.Latches {
		next[i] = m.worth(m.Latches[i].Next)
	}
	copy(m.values[1+m.Inputs:], next)
}
