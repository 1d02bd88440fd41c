package word

import "gatewright/api"

// Run tells what the outputs of a netlist are worth, cycle by cycle.
func Run(n api.Netlist, trace [][]uint64) [][]uint64 {
	if !Valid(n) {
		return nil
	}
	m := start(&n)
	rows := make([][]uint64, len(trace))
	for i := range trace {
		m.workOut(trace[i])
		rows[i] = m.told()
		m.clock()
	}
	return rows
}

// machine is a netlist that runs.
type machine struct {
	*api.Netlist
	values []uint64 // of the nodes
	regs   []uint64
	words  [][]uint64 // of the memories
}

func start(n *api.Netlist) *machine {
	m := &machine{n, make([]uint64, len(n.Nodes)), make([]uint64, len(n.Regs)), make([][]uint64, len(n.Mems))}
	for i := range n.Regs {
		m.regs[i] = n.Regs[i].Init
	}
	for i := range n.Mems {
		m.words[i] = make([]uint64, n.Mems[i].Words)
	}
	return m
}

// workOut tells what all nodes are worth in a cycle.
func (m *machine) workOut(row []uint64) {
	for i := range m.Nodes {
		x := &m.Nodes[i]
		switch x.Kind {
		case api.NIn:
			m.values[i] = 0
			if x.Num < uint64(len(row)) {
				m.values[i] = row[x.Num] & mask(x.Width)
			}
		case api.NReg:
			m.values[i] = m.regs[x.Num]
		case api.NRead:
			m.values[i] = 0
			words := m.words[x.Num]
			if at := m.values[x.Args[0]]; at < uint64(len(words)) {
				m.values[i] = words[at]
			}
		default:
			m.values[i] = worth(x, m.Nodes, m.values)
		}
	}
}

func (m *machine) told() []uint64 {
	row := make([]uint64, len(m.Outputs))
	for i, node := range m.Outputs {
		row[i] = m.values[node]
	}
	return row
}

// clock sets the registers, and the words that are written.
func (m *machine) clock() {
	for i := range m.Regs {
		m.regs[i] = m.values[m.Regs[i].Next]
	}
	for i := range m.Writes {
		w := &m.Writes[i]
		words := m.words[w.Mem]
		if at := m.values[w.Addr]; m.values[w.When] != 0 && at < uint64(len(words)) {
			words[at] = m.values[w.Data]
		}
	}
}
