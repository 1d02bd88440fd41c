package equal

import (
	"gatewright/api"
)

// plusOne counts up.
func (m *maker) plusOne(x []int) []int {
	var sum []int
	carry := 1
	for _, l := range x {
		sum = append(sum, m.xor(l, carry))
		carry = m.and(l, carry)
	}
	return sum
}

func (m *maker) minus(x []int) []int {
	var opposite []int
	for _, l := range x {
		opposite = append(opposite, l^1)
	}
	return m.plusOne(opposite)
}

// chosen is word x if s is true, else y.
func (m *maker) chosen(s int, x, y []int) []int {
	var word []int
	for i := range x {
		word = append(word, m.choice(s, x[i], y[i]))
	}
	return word
}

// is asks whether a word spells a number.
func (m *maker) is(x []int, number int) int {
	all := 1
	for i, l := range x {
		all = m.and(all, l^1^number>>i&1)
	}
	return all
}

// two makes two graphs that have equally many inputs.
func two(inputs int) (a, b *maker, list []int) {
	a, b = &maker{}, &maker{}
	a.inputs(inputs)
	return a, b, b.inputs(inputs)
}

// counters count up to some number when all of some inputs are true: then one of them shows it.
func counters(inputs, width, number int) (api.Graph, api.Graph) {
	a, b, list := two(inputs)
	for _, m := range []*maker{a, b} {
		c := m.latches(width)
		m.next(c, m.chosen(m.fold(list, m.and), m.plusOne(c), c))
		m.out(m.fold(c, m.xor))
		if m == b {
			m.Outputs[0] = m.xor(m.Outputs[0], m.is(c, number))
		}
	}
	return a.Graph, b.Graph
}

// sums add up words, one of them in two words, with the carries in one of these.
func sums(width int) (api.Graph, api.Graph) {
	a, b, x := two(width)
	r := a.latches(width)
	a.next(r, a.add(r, x))
	a.out(r...)
	s, c := b.latches(width), b.latches(width)
	carries := []int{0}
	var bits []int
	for i := range width {
		bits = append(bits, b.xor(b.xor(s[i], c[i]), x[i]))
		carries = append(carries, b.or(b.and(s[i], c[i]), b.and(x[i], b.or(s[i], c[i]))))
	}
	b.next(s, bits)
	b.next(c, carries[:width])
	b.out(b.add(s, c)...)
	return a.Graph, b.Graph
}

// histories add up the last words, one of them anew each time, the other one by what comes and goes.
func histories(words, width int) (api.Graph, api.Graph) {
	a, b, x := two(width)
	past := func(m *maker) [][]int {
		var all [][]int
		for range words {
			all = append(all, m.latches(width))
		}
		last := x
		for _, w := range all {
			m.next(w, last)
			last = w
		}
		return all
	}
	all := past(a)
	sum := all[0]
	for _, w := range all[1:] {
		sum = a.add(sum, w)
	}
	a.out(sum...)
	all = past(b)
	r := b.latches(width)
	b.next(r, b.add(b.add(r, x), b.minus(all[words-1])))
	b.out(r...)
	return a.Graph, b.Graph
}

// grayAndPlain count up when an input is true, one of them with one bit that changes at a time.
func grayAndPlain(width int) (api.Graph, api.Graph) {
	a, b, x := two(1)
	c := a.latches(width)
	a.next(c, a.chosen(x[0], a.plusOne(c), c))
	a.out(c...)
	g := b.latches(width)
	plain := make([]int, width)
	above := 0
	for i := width - 1; i >= 0; i-- {
		above = b.xor(above, g[i])
		plain[i] = above
	}
	next := append(b.plusOne(plain), 0)
	var gray []int
	for i := range width {
		gray = append(gray, b.xor(next[i], next[i+1]))
	}
	b.next(g, b.chosen(x[0], gray, g))
	b.out(plain...)
	return a.Graph, b.Graph
}

// queues: one of them moves all words on, the other one goes round. Inputs: put, take, a word; outputs: empty, full, the first word.
func queues(bits, width int) (api.Graph, api.Graph) {
	size := 1 << bits
	a, b, x := two(2 + width)
	count := a.latches(bits + 1)
	var cells [][]int
	for range size {
		cells = append(cells, a.latches(width))
	}
	empty, full := a.is(count, 0), a.is(count, size)
	take, put := a.and(x[1], empty^1), a.and(x[0], full^1)
	less := a.chosen(take, a.minus(a.plusOne(a.minus(count))), count)
	a.next(count, a.chosen(put, a.plusOne(less), less))
	for i := range cells {
		moved := make([]int, width)
		if i+1 < size {
			moved = cells[i+1]
		}
		a.next(cells[i], a.chosen(a.and(put, a.is(less, i)), x[2:], a.chosen(take, moved, cells[i])))
	}
	a.out(empty, full)
	for _, l := range cells[0] {
		a.out(a.and(l, empty^1))
	}
	b.ring(bits, width, x)
	return a.Graph, b.Graph
}

func (m *maker) ring(bits, width int, x []int) {
	from, to := m.latches(bits+1), m.latches(bits+1)
	var cells [][]int
	for range 1 << bits {
		cells = append(cells, m.latches(width))
	}
	same := 1
	for i := range bits {
		same = m.and(same, m.xor(from[i], to[i])^1)
	}
	isRound := m.xor(from[bits], to[bits])
	empty, full := m.and(same, isRound^1), m.and(same, isRound)
	take, put := m.and(x[1], empty^1), m.and(x[0], full^1)
	m.next(from, m.chosen(take, m.plusOne(from), from))
	m.next(to, m.chosen(put, m.plusOne(to), to))
	for i := range cells {
		m.next(cells[i], m.chosen(m.and(put, m.is(to[:bits], i)), x[2:], cells[i]))
	}
	m.out(empty, full)
	for k := range width {
		first := 0
		for i := range cells {
			first = m.or(first, m.and(m.is(from[:bits], i), cells[i][k]))
		}
		m.out(m.and(first, empty^1))
	}
}

// memories: one of them writes a cycle later, and shows what it is to write. Inputs: which to read, which to write, whether, what.
func memories(bits int) (api.Graph, api.Graph) {
	a, b, x := two(2*bits + 2)
	write := func(m *maker, cells, which []int, whether, what int) {
		for i, l := range cells {
			m.next([]int{l}, []int{m.choice(m.and(whether, m.is(which, i)), what, l)})
		}
	}
	read := func(m *maker, cells []int) int {
		for _, l := range x[:bits] {
			var half []int
			for i := 0; i < len(cells); i += 2 {
				half = append(half, m.choice(l, cells[i+1], cells[i]))
			}
			cells = half
		}
		return cells[0]
	}
	cells := a.latches(1 << bits)
	write(a, cells, x[bits:2*bits], x[2*bits], x[2*bits+1])
	a.out(read(a, cells))
	cells = b.latches(1 << bits)
	later := b.latches(bits + 2)
	b.next(later, x[bits:])
	write(b, cells, later[:bits], later[bits], later[bits+1])
	same := later[bits]
	for i := range bits {
		same = b.and(same, b.xor(later[i], x[i])^1)
	}
	b.out(b.choice(same, later[bits+1], read(b, cells)))
	return a.Graph, b.Graph
}

// filters show the sum (modulo 2) of the input and of what they have shown so many cycles ago. They have no latch in common.
func filters(ago ...int) (api.Graph, api.Graph) {
	last := ago[len(ago)-1]
	a, b, x := two(1)
	shown := a.latches(last)
	y := x[0]
	for _, n := range ago {
		y = a.xor(y, shown[n-1])
	}
	a.next(shown, append([]int{y}, shown[:last-1]...))
	a.out(y)
	sums := append(b.latches(last), 0)
	z := b.xor(x[0], sums[0])
	next := append([]int(nil), sums[1:]...)
	for _, n := range ago {
		next[n-1] = b.xor(next[n-1], z)
	}
	b.next(sums[:last], next)
	b.out(z)
	return a.Graph, b.Graph
}
