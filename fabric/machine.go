package fabric

import "gatewright/api"

// machine is a fabric that runs. Each value is 0 or 1.
type machine struct {
	config  *api.Config
	sources []byte    // among which the first column chooses
	lines   [2][]byte // among which one chooses behind a column; the columns take turns
	last    []byte    // behind the last column
}

func start(c *api.Config) *machine {
	m := &machine{config: c, sources: make([]byte, 2+c.Shape.Inputs+c.Shape.Regs)}
	m.sources[1] = 1
	for i := range m.lines {
		m.lines[i] = make([]byte, 2+c.Shape.Rows)
		m.lines[i][1] = 1
	}
	for i, reg := range c.Regs {
		m.registers()[i] = valueOf(reg.Init)
	}
	return m
}

func (m *machine) inputs() []byte { return m.sources[2 : 2+m.config.Shape.Inputs] }

func (m *machine) registers() []byte { return m.sources[2+m.config.Shape.Inputs:] }

func valueOf(bit bool) byte {
	if bit {
		return 1
	}
	return 0
}

// workOut lets the columns tell one after the other.
func (m *machine) workOut(row []bool) {
	inputs := m.inputs()
	clear(inputs)
	for i := range min(len(row), len(inputs)) {
		inputs[i] = valueOf(row[i])
	}
	m.last = m.sources
	for column, cells := range m.config.Cells {
		line := m.lines[column%2]
		for i := range cells {
			line[2+i] = told(&cells[i], m.last)
		}
		m.last = line
	}
}

// told gives what a cell tells.
func told(cell *api.Cell, from []byte) byte {
	spelled := from[cell.Sel[0]] | from[cell.Sel[1]]<<1 | from[cell.Sel[2]]<<2 | from[cell.Sel[3]]<<3
	return byte(cell.Bits >> spelled & 1)
}

// shown gives what the outputs are worth.
func (m *machine) shown() []bool {
	row := make([]bool, len(m.config.Outs))
	for i, sel := range m.config.Outs {
		row[i] = m.last[sel] == 1
	}
	return row
}

// clock sets all registers: they choose behind the last column, so that none of them sees what another one has become.
func (m *machine) clock() {
	registers := m.registers()
	for i, reg := range m.config.Regs {
		registers[i] = m.last[reg.Sel]
	}
}
