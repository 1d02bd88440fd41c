package lut

import "gatewright/api"

// machine is a valid net that runs.
type machine struct {
	net    *api.Tables
	values []bool // of the signals
}

func start(n *api.Tables) *machine {
	m := &machine{n, make([]bool, signals(n))}
	m.values[1] = true
	copy(m.registers(), n.Init)
	return m
}

func (m *machine) registers() []bool {
	return m.values[2+m.net.Inputs : firstTable(m.net)]
}

// workOut tells what all signals are worth in a cycle.
func (m *machine) workOut(row []bool) {
	inputs := m.values[2 : 2+m.net.Inputs]
	clear(inputs)
	copy(inputs, row)
	tables := m.values[firstTable(m.net):]
	for i := range tables {
		tables[i] = m.worth(&m.net.Tables[i])
	}
}

func (m *machine) worth(t *api.Table) bool {
	spelled := 0
	for i, s := range t.Ins {
		if m.values[s] {
			spelled |= 1 << i
		}
	}
	return t.Bits>>spelled&1 == 1
}

// told gives what signals are worth.
func (m *machine) told(list []int) []bool {
	row := make([]bool, len(list))
	for i, s := range list {
		row[i] = m.values[s]
	}
	return row
}

// clock sets all registers at one time.
func (m *machine) clock() {
	copy(m.registers(), m.told(m.net.Next))
}
