package place

import "gatewright/api"

// passing is the table of a cell that tells what its first input is, if the others are false.
const passing = 0b10

// laid gives the configuration of a plan.
func (p *plan) laid() api.Config {
	s := p.shape
	c := api.Config{Shape: s, Cells: make([][]api.Cell, s.Cols), Regs: make([]api.Cfg, s.Regs), Outs: make([]int, s.Outputs)}
	where := p.sources()
	for column, held := range p.held() {
		c.Cells[column] = p.cells(column, held, where)
		where = p.rows(held)
	}
	for i, signal := range p.net.Next {
		c.Regs[i] = api.Cfg{Sel: where[signal], Init: p.net.Init[i]}
	}
	for i, signal := range p.net.Outputs {
		c.Outs[i] = where[signal]
	}
	return c
}

// sources tells by which numbers the first column chooses signals.
func (p *plan) sources() map[int]int {
	where := map[int]int{0: 0, 1: 1}
	for i := range p.net.Inputs {
		where[2+i] = 2 + i
	}
	for i := range p.net.Init {
		where[2+p.net.Inputs+i] = 2 + p.shape.Inputs + i
	}
	return where
}

// held gives for each column the items that it holds.
func (p *plan) held() [][]int {
	columns := make([][]int, p.shape.Cols)
	for i := range p.items {
		until := p.until(i)
		for column := p.from(i); column < until; column++ {
			columns[column] = append(columns[column], i)
		}
	}
	return columns
}

// rows tells by which numbers one chooses signals behind a column that holds these items.
func (p *plan) rows(held []int) map[int]int {
	where := map[int]int{0: 0, 1: 1}
	for row, i := range held {
		where[p.items[i].signal] = 2 + row
	}
	return where
}

// cells gives a column that holds these items.
func (p *plan) cells(column int, held []int, where map[int]int) []api.Cell {
	cells := make([]api.Cell, p.shape.Rows)
	for row, i := range held {
		own := &p.items[i]
		if own.column < column {
			cells[row] = api.Cell{Sel: [4]int{where[own.signal]}, Bits: passing}
			continue
		}
		table := &p.net.Tables[own.signal-firstTable(p.net)]
		cells[row].Bits = table.Bits
		for k, in := range table.Ins {
			cells[row].Sel[k] = where[in]
		}
	}
	return cells
}
