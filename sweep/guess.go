package sweep

import "slices"

// mostLeaders is with how many variables of its class a variable is compared.
const mostLeaders = 3

// guesses are what patterns tell of the variables of a graph: which may be the same.
type guesses struct {
	*classes
	isExact bool          // all patterns have been run: variables of one class are the same
	stays   []bool        // by variable
	leaders map[int][]int // by class: the first of its variables that stay
	tried   []int         // by variable: with how many leaders it has been compared
	rounds  int           // blocks that have been run because of samples
}

// guess runs patterns, each worker some of them.
func (l *layers) guess(p patterns) guesses {
	values := make([]block, l.variables())
	l.run(values, func(int) block { return block{} })
	all := newClasses(values)
	var shares []int
	for share := range min(workers, p.blocks) {
		shares = append(shares, share)
	}
	cut := each(shares, func(share int) *classes {
		c := all.clone()
		values := make([]block, l.variables())
		for number := share; number < p.blocks; number += len(shares) {
			l.run(values, func(v int) block { return p.head(v, number) })
			c.tellApart(values)
		}
		return c
	})
	for _, c := range cut {
		all.join(c)
	}
	return guesses{
		classes: all,
		isExact: p.isAll,
		stays:   make([]bool, l.variables()),
		leaders: make(map[int][]int),
		tried:   make([]int, l.variables()),
	}
}

// stay notes that a variable stays.
func (g *guesses) stay(v int) {
	g.stays[v] = true
	g.lead(v)
}

// lead makes a variable a leader, if its class has not enough of them.
func (g *guesses) lead(v int) {
	if g.isAlone(v) {
		return
	}
	class := g.class[v]
	if len(g.leaders[class]) < mostLeaders {
		g.leaders[class] = append(g.leaders[class], v)
	}
}

// guessed is the literal that a variable is to be compared with next.
func (g *guesses) guessed(v int) (literal int, isThere bool) {
	if g.isAlone(v) {
		return 0, false
	}
	list := g.leaders[g.class[v]]
	if g.tried[v] >= len(list) {
		return 0, false
	}
	leader := list[g.tried[v]]
	if g.isTurned[v] != g.isTurned[leader] {
		return 2*leader + 1, true
	}
	return 2 * leader, true
}

// part runs patterns near to samples, and finds the leaders anew.
func (g *guesses) part(l *layers, samples []sample) {
	values := make([]block, l.variables())
	for some := range slices.Chunk(samples, sampleWords) {
		g.rounds++
		l.run(values, l.near(some, g.rounds))
		g.tellApart(values)
	}
	clear(g.leaders)
	for v, stays := range g.stays {
		if stays {
			g.lead(v)
		}
	}
}
