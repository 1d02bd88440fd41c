package lut

import "gatewright/api"

const (
	tablePrice = 1 << 12
	mostPrice  = 1 << 40 // prices may grow from gate to gate, but sums of them are to stay numbers
)

// cover tells which gates become tables.
type cover struct {
	gates  []int      // from the last one to the first
	leaves lists[int] // of each table: variables
	bits   []int
}

// chooser chooses a cut for each gate that is needed.
type chooser struct {
	*finder
	first  int   // the first gate
	prices []int // of variables: what it may cost to need them
	until  []int // the depth that a gate must not exceed; 0 where it is not needed
	cover  cover
}

// covered makes a graph as flat as can be: of gates that have time it takes cuts that cost little.
func covered(g *api.Graph) *cover {
	f := found(g)
	c := &chooser{finder: f, first: firstGate(g), until: make([]int, len(f.depths))}
	c.price(g)
	deepest := 0
	for _, l := range ends(g) {
		deepest = max(deepest, c.depths[l/2])
	}
	for _, l := range ends(g) {
		c.until[l/2] = deepest
	}
	for v := len(c.until) - 1; v >= c.first; v-- {
		if c.until[v] > 0 {
			c.choose(v)
		}
	}
	return &c.cover
}

// price guesses what each gate costs: its table, and what this one needs; all gates that have it as a literal share that. Nothing is needed as yet.
func (c *chooser) price(g *api.Graph) {
	sharers := make([]int, len(c.depths))
	for _, and := range g.Ands {
		sharers[and[0]/2]++
		sharers[and[1]/2]++
	}
	c.prices = make([]int, len(c.depths))
	for v := c.first; v < len(c.prices); v++ {
		least := mostPrice
		cuts := c.cuts.at(v)[1:]
		for i := range cuts {
			least = min(least, tablePrice+c.costs(&cuts[i]))
		}
		c.prices[v] = least / max(1, sharers[v])
	}
}

// costs sums up what a cut's table needs and is not needed already.
func (c *chooser) costs(own *cut) int {
	sum := 0
	for _, place := range own.weighty() {
		if v := own.leaves[place]; c.until[v] == 0 {
			sum += c.prices[v]
		}
	}
	return sum
}

// choose takes the cheapest cut of a gate that is flat enough.
func (c *chooser) choose(v int) {
	var best *cut
	cuts := c.cuts.at(v)[1:]
	for i := range cuts {
		if cuts[i].depth < c.until[v] && (best == nil || c.costs(&cuts[i]) < c.costs(best)) {
			best = &cuts[i]
		}
	}
	var leaves []int
	for _, place := range best.weighty() {
		leaves = append(leaves, best.leaves[place])
		c.need(best.leaves[place], c.until[v]-1)
	}
	c.cover.gates = append(c.cover.gates, v)
	c.cover.leaves.add(leaves...)
	c.cover.bits = append(c.cover.bits, best.bits(best.weighty()))
}

func (c *chooser) need(v, until int) {
	if c.until[v] == 0 || until < c.until[v] {
		c.until[v] = until
	}
}
