package place

import (
	"slices"

	"gatewright/api"
)

// atSource is the column of inputs and registers: they are there ahead of all columns.
const atSource = -1

// item is a signal that is needed. All columns from its own one up to the one ahead of its last taker hold it in a cell.
type item struct {
	signal int     // of the net
	ins    []int   // the items that its table takes, each once
	isEnd  bool    // whether outputs or registers take it
	column int     // in which its table stands
	takers []int32 // of each column: how many tables there take it; behind the last one: 1 if it is an end
}

// plan tells in which column each table stands.
type plan struct {
	net   *api.Tables
	shape api.Shape
	items []item // inputs, registers, tables
	first int    // the first item that is a table
	loads []int  // of columns: how many items they hold
}

// newPlan has the items of a net, none of which stands anywhere as yet.
func newPlan(n *api.Tables, s api.Shape) *plan {
	p := &plan{net: n, shape: s, loads: make([]int, s.Cols)}
	book := map[int]int{} // items by their signals
	for _, signal := range needed(n) {
		book[signal] = len(p.items)
		p.items = append(p.items, item{signal: signal, ins: p.taken(signal, book), column: atSource})
		if signal < firstTable(n) {
			p.first = len(p.items)
		}
	}
	for _, signal := range ends(n) {
		if i, ok := book[signal]; ok {
			p.items[i].isEnd = true
		}
	}
	return p
}

// ends gives the signals that outputs and registers take.
func ends(n *api.Tables) []int { return slices.Concat(n.Outputs, n.Next) }

// firstTable is the signal of a net's first table.
func firstTable(n *api.Tables) int { return 2 + n.Inputs + len(n.Init) }

// needed gives the signals on which the ends hang, in order; but no constants, for each selector has these.
func needed(n *api.Tables) []int {
	isNeeded := make([]bool, firstTable(n)+len(n.Tables))
	need := func(list []int) {
		for _, signal := range list {
			isNeeded[signal] = true
		}
	}
	need(ends(n))
	for i := len(n.Tables) - 1; i >= 0; i-- {
		if isNeeded[firstTable(n)+i] {
			need(n.Tables[i].Ins)
		}
	}
	var list []int
	for signal := 2; signal < len(isNeeded); signal++ {
		if isNeeded[signal] {
			list = append(list, signal)
		}
	}
	return list
}

// taken gives the items that a signal's table takes, each once.
func (p *plan) taken(signal int, book map[int]int) []int {
	if signal < firstTable(p.net) {
		return nil
	}
	var list []int
	for _, in := range p.net.Tables[signal-firstTable(p.net)].Ins {
		if i, ok := book[in]; ok && !slices.Contains(list, i) {
			list = append(list, i)
		}
	}
	return list
}

// until tells the column from which on an item is held no longer: that of its last taker.
func (p *plan) until(i int) int {
	takers := p.items[i].takers
	for column := len(takers) - 1; column >= 0; column-- {
		if takers[column] > 0 {
			return column
		}
	}
	return p.from(i)
}

// from tells the first column that holds an item, if it is held.
func (p *plan) from(i int) int { return max(0, p.items[i].column) }

// earliest tells the first column in which a table may stand: it is behind all that the table takes.
func (p *plan) earliest(i int) int {
	column := 0
	for _, in := range p.items[i].ins {
		column = max(column, p.items[in].column+1)
	}
	return column
}

// latest tells the last column in which a table may stand: it is ahead of all takers.
func (p *plan) latest(i int) int {
	column := 0
	for p.items[i].takers[column+1] == 0 {
		column++
	}
	return column
}
