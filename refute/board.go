package refute

// A clause is near if it has been of use of late, else far. Those far off are looked at only when those near tell nothing more, which saves most of the work where there are many steps.
const (
	near = iota
	far
	tiers
)

const (
	leastRound = 1000 // steps, until it is told anew which clauses are near
	share      = 100  // and one step more for so many clauses and literals, for to tell it takes as long as there are many
	lateRounds = 2    // for so many rounds a clause stays near without being of use
)

const none = -1 // the number of no clause

// clause has its first two literals watched.
type clause struct {
	list  []literal
	next  int // where a literal to be watched is looked for first, so that a long clause is not gone through again and again
	tier  int
	round int // in which it was of use last
}

// watch of a clause. Another literal of it is at hand: where that is true there is nothing to do.
type watch struct {
	clause int32
	other  literal
}

// board has the clauses, and what is held for true and false. A clause that tells a literal by itself, or is true for ever, is not kept.
type board struct {
	clauses []clause
	watches [tiers][][]watch // by literal: the clauses to be looked at when it is held for false
	held    []int8           // by literal: 1 true, -1 false, 0 neither
	reason  []int32          // by variable: the clause that told it
	isUsed  []bool           // by variable: whether it led to a clause with nothing left
	trail   []literal        // those held for true, in order
	looked  [tiers]int       // how many of them have been looked at
	isDone  bool             // some clause has nothing left, whatever is held
	round   int
	steps   int // in this round
}

func newBoard(vars int) *board {
	b := &board{
		held:   make([]int8, 2*vars),
		reason: make([]int32, vars),
		isUsed: make([]bool, vars),
	}
	for t := range b.watches {
		b.watches[t] = make([][]watch, 2*vars)
	}
	return b
}

// add takes a clause, and holds for true what it tells by itself.
func (b *board) add(c []int) {
	if b.isDone {
		return
	}
	open, isTrue := b.openOf(c)
	switch {
	case isTrue:
	case len(open) == 0:
		b.isDone = true
	case len(open) == 1:
		b.hold(open[0], none)
		b.isDone = b.propagate() != none
	default:
		b.clauses = append(b.clauses, clause{list: open, next: 2, round: b.round})
		b.watch(int32(len(b.clauses)-1), near)
	}
}

// openOf gives the literals of a clause that are not held for false, each once; or tells that it is true for ever.
func (b *board) openOf(c []int) (open []literal, isTrue bool) {
	before := len(b.trail)
	for _, n := range c {
		l := literalOf(n)
		isTrue = isTrue || b.held[l] > 0
		if b.held[l] == 0 {
			b.hold(l.opposite(), none)
			open = append(open, l)
		}
	}
	b.forget(before)
	return open, isTrue
}

func (b *board) watch(i int32, tier int) {
	b.clauses[i].tier = tier
	c, watches := b.clauses[i].list, b.watches[tier]
	watches[c[0]] = append(watches[c[0]], watch{i, c[1]})
	watches[c[1]] = append(watches[c[1]], watch{i, c[0]})
}

func (b *board) hold(l literal, reason int32) {
	b.held[l], b.held[l.opposite()] = 1, -1
	b.reason[l.variable()] = reason
	b.trail = append(b.trail, l)
}

// forget holds no more what has been held since so many were.
func (b *board) forget(count int) {
	for _, l := range b.trail[count:] {
		b.held[l], b.held[l.opposite()] = 0, 0
	}
	b.trail, b.looked = b.trail[:count], [tiers]int{count, count}
}

// follows asks whether a clause follows by unit propagation.
func (b *board) follows(c []int) bool {
	if b.isDone {
		return true
	}
	before := len(b.trail)
	defer b.forget(before)
	for _, n := range c {
		l := literalOf(n)
		if b.held[l] > 0 {
			return true
		}
		if b.held[l] == 0 {
			b.hold(l.opposite(), none)
		}
	}
	found := b.propagate()
	if found == none {
		return false
	}
	b.useAll(found, before)
	return true
}
