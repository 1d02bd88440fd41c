package refute

// propagate holds for true what clauses have left alone, and gives a clause that has nothing left, or none.
func (b *board) propagate() int32 {
	for {
		tier := near
		if b.looked[near] == len(b.trail) {
			tier = far
		}
		if b.looked[tier] == len(b.trail) {
			return none
		}
		l := b.trail[b.looked[tier]].opposite()
		b.looked[tier]++
		if c := b.wake(l, tier); c != none {
			return c
		}
	}
}

// wake looks at the clauses of a tier that watch a literal which is held for false now, and gives one that has nothing left, or none.
func (b *board) wake(l literal, tier int) int32 {
	list := b.watches[tier][l]
	kept := 0
	for i, w := range list {
		if tier == far && b.clauses[w.clause].tier == near {
			continue
		}
		if b.held[w.other] <= 0 {
			c := &b.clauses[w.clause]
			if c.list[0] == l {
				c.list[0], c.list[1] = c.list[1], l
			}
			w.other = c.list[0]
			if b.held[w.other] <= 0 && b.findNext(c) {
				c.list[1], c.list[c.next] = c.list[c.next], l
				b.watches[tier][c.list[1]] = append(b.watches[tier][c.list[1]], w)
				continue
			}
		}
		list[kept] = w
		kept++
		switch b.held[w.other] {
		case -1:
			kept += copy(list[kept:], list[i+1:])
			b.watches[tier][l] = list[:kept]
			return w.clause
		case 0:
			b.hold(w.other, w.clause)
		}
	}
	b.watches[tier][l] = list[:kept]
	return none
}

// findNext looks for a literal of a clause to be watched in the place of the second one.
func (b *board) findNext(c *clause) bool {
	for k := c.next; k < len(c.list); k++ {
		if b.held[c.list[k]] >= 0 {
			c.next = k
			return true
		}
	}
	for k := 2; k < c.next; k++ {
		if b.held[c.list[k]] >= 0 {
			c.next = k
			return true
		}
	}
	return false
}

// useAll notes which clauses have led to one that has nothing left, and calls them near.
func (b *board) useAll(found int32, before int) {
	b.use(found)
	for i := len(b.trail) - 1; i >= before; i-- {
		v := b.trail[i].variable()
		if b.isUsed[v] && b.reason[v] != none {
			b.use(b.reason[v])
		}
		b.isUsed[v] = false
	}
}

func (b *board) use(i int32) {
	c := &b.clauses[i]
	c.round = b.round
	if c.tier == far {
		b.watch(i, near)
	}
	for _, l := range c.list {
		b.isUsed[l.variable()] = true
	}
}

// endStep begins a new round, when it is time.
func (b *board) endStep() {
	b.steps++
	if b.steps < leastRound+(len(b.held)+len(b.clauses))/share {
		return
	}
	b.steps = 0
	b.round++
	for t := range b.watches {
		for l, list := range b.watches[t] {
			b.watches[t][l] = list[:0]
		}
	}
	for i, c := range b.clauses {
		tier := near
		if c.round+lateRounds < b.round {
			tier = far
		}
		b.watch(int32(i), tier)
	}
}
