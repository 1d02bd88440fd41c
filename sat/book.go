package sat

// given is the number of each clause of the formula; what is derived has the numbers from 1 on.
const given int32 = 0

// book keeps what was derived, and of what, so that at last what is needed for the empty clause can be told.
type book struct {
	pool     []int32
	steps    []step
	isEnded  bool // the empty clause is the last step
	isClosed bool // nobody will ask what was derived: nothing is kept
}

// step is something derived: its literals, and behind them the numbers of its sources, are a piece of the pool. A silent one is found by unit propagation anyhow, and not told.
type step struct {
	from, sources, to int
	isSilent          bool
}

// add notes a clause, and tells its number.
func (b *book) add(list []literal, sources []int32) int32 {
	if b.isClosed {
		return given
	}
	from := len(b.pool)
	for _, l := range list {
		b.pool = append(b.pool, int32(l))
	}
	middle := len(b.pool)
	b.pool = append(b.pool, sources...)
	b.steps = append(b.steps, step{from, middle, len(b.pool), false})
	return b.last()
}

// last is the number of what was derived last.
func (b *book) last() int32 { return int32(len(b.steps)) }

// addSilent notes what is known of one variable, and tells its number.
func (b *book) addSilent(sources []int32) int32 {
	number := b.add(nil, sources)
	if number != given {
		b.steps[number-1].isSilent = true
	}
	return number
}

// end notes the empty clause.
func (b *book) end(sources []int32) {
	b.add(nil, sources)
	b.isEnded = true
}

// needed tells the clauses on which some hang, told by their numbers, and these.
func (b *book) needed(numbers ...int32) [][]int {
	isNeeded := make([]bool, 1+len(b.steps))
	for _, n := range numbers {
		isNeeded[n] = true
	}
	count := 0
	for n := b.last(); n > given; n-- {
		if !isNeeded[n] {
			continue
		}
		s := b.steps[n-1]
		for _, source := range b.pool[s.sources:s.to] {
			isNeeded[source] = true
		}
		if !s.isSilent {
			count++
		}
	}
	told := make([][]int, 0, count)
	for i, s := range b.steps {
		if isNeeded[i+1] && !s.isSilent {
			told = append(told, numbersOf(b.pool[s.from:s.sources]))
		}
	}
	return told
}

func numbersOf(list []int32) []int {
	numbers := make([]int, len(list))
	for i, l := range list {
		numbers[i] = literal(l).number()
	}
	return numbers
}
