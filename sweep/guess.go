package sweep

import (
	"slices"

	"gatewright/pattern"
)

// mostLeaders is with how many variables of its class a variable is compared.
const mostLeaders = 3

// guesses are what patterns tell of the variables of a graph: which may be the same.
type guesses struct {
	*pattern.Classes
	isExact bool          // all patterns have been run: variables of one class are the same
	stays   []bool        // by variable
	leaders map[int][]int // by class: the first of its variables that stay
	tried   []int         // by variable: with how many leaders it has been compared
	rounds  int           // blocks that have been run because of samples
}

// guess runs patterns, each worker some of them.
func (l *layers) guess(p patterns) guesses {
	values := make([]pattern.Block, l.variables())
	l.run(values, func(int) pattern.Block { return pattern.Block{} })
	all := pattern.NewClasses(values)
	var shares []int
	for share := range min(workers, p.blocks) {
		shares = append(shares, share)
	}
	cut := each(shares, func(share int) *pattern.Classes {
		c := all.Clone()
		values := make([]pattern.Block, l.variables())
		for number := share; number < p.blocks; number += len(shares) {
			l.run(values, func(v int) pattern.Block { return p.head(v, number) })
			c.TellApart(values)
		}
		return c
	})
	for _, c := range cut {
		all.Join(c)
	}
	return guesses{
		Classes: all,
		isExact: p.isAll,
		stays:   make([]bool, l.variables()),
		leaders: make(map[int][]int),
		tried:   make([]int, l.variables()),
	}
}

// stay notes that a variable stays.
func (g *guesses) stay(v int) {
	g.stays[v] = true
	g.lead(v)
}

// lead makes a variable a leader, if its class has not enough of them.
func (g *guesses) lead(v int) {
	if g.IsAlone(v) {
		return
	}
	class := g.Of(v)
	if len(g.leaders[class]) < mostLeaders {
		g.leaders[class] = append(g.leaders[class], v)
	}
}

// guessed is the literal that a variable is to be compared with next.
func (g *guesses) guessed(v int) (literal int, isThere bool) {
	if g.IsAlone(v) {
		return 0, false
	}
	list := g.leaders[g.Of(v)]
	if g.tried[v] >= len(list) {
		return 0, false
	}
	return g.Matching(list[g.tried[v]], v), true
}

// part runs patterns near to samples, and finds the leaders anew.
func (g *guesses) part(l *layers, samples []sample) {
	values := make([]pattern.Block, l.variables())
	for some := range slices.Chunk(samples, sampleWords) {
		g.rounds++
		l.run(values, l.near(some, g.rounds))
		g.TellApart(values)
	}
	clear(g.leaders)
	for v, stays := range g.stays {
		if stays {
			g.lead(v)
		}
	}
}
