package sat

// book keeps what was derived, and of what, so that at last what is needed for the empty clause can be told. The formula's clauses have the first numbers, what is derived has those behind them.
type book struct {
	given   int // the number of the formula's clauses
	pool    []int32
	steps   []step
	isEnded bool // the empty clause is the last step
}

// step is something derived: its literals, and behind them the numbers of its sources, are a piece of the pool. A silent one is found by unit propagation anyhow, and not told.
type step struct {
	from, sources, to int
	isSilent          bool
}

// add notes a clause, and tells its number.
func (b *book) add(list []literal, sources []int32) int32 {
	from := len(b.pool)
	for _, l := range list {
		b.pool = append(b.pool, int32(l))
	}
	middle := len(b.pool)
	b.pool = append(b.pool, sources...)
	b.steps = append(b.steps, step{from, middle, len(b.pool), false})
	return int32(b.given + len(b.steps) - 1)
}

// addSilent notes what is known of one variable, and tells its number.
func (b *book) addSilent(sources []int32) int32 {
	number := b.add(nil, sources)
	b.steps[len(b.steps)-1].isSilent = true
	return number
}

// end notes the empty clause.
func (b *book) end(sources []int32) {
	b.add(nil, sources)
	b.isEnded = true
}

// needed tells the clauses on which the last one hangs, and that one.
func (b *book) needed() [][]int {
	isNeeded := make([]bool, len(b.steps))
	isNeeded[len(b.steps)-1] = true
	count := 0
	for i := len(b.steps) - 1; i >= 0; i-- {
		if !isNeeded[i] {
			continue
		}
		s := b.steps[i]
		for _, n := range b.pool[s.sources:s.to] {
			if int(n) >= b.given {
				isNeeded[int(n)-b.given] = true
			}
		}
		if !s.isSilent {
			count++
		}
	}
	told := make([][]int, 0, count)
	for i, s := range b.steps {
		if isNeeded[i] && !s.isSilent {
			told = append(told, numbersOf(b.pool[s.from:s.sources]))
		}
	}
	return told
}

func numbersOf(list []int32) []int {
	numbers := make([]int, len(list))
	for i, l := range list {
		numbers[i] = literal(l).number()
	}
	return numbers
}
