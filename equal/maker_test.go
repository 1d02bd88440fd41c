package equal

import (
	"math/rand"
	"slices"

	"gatewright/api"
)

// maker makes graphs. All its inputs and latches are taken ahead of its gates.
type maker struct{ api.Graph }

func (m *maker) inputs(count int) []int {
	var list []int
	for range count {
		m.Inputs++
		list = append(list, 2*m.Inputs)
	}
	return list
}

func (m *maker) latches(count int) []int {
	var list []int
	for range count {
		m.Latches = append(m.Latches, api.Latch{})
		list = append(list, 2*(m.Inputs+len(m.Latches)))
	}
	return list
}

// next sets the Next of latches.
func (m *maker) next(latches, literals []int) {
	for i, l := range latches {
		m.Latches[l/2-1-m.Inputs].Next = literals[i]
	}
}

func (m *maker) and(a, b int) int {
	m.Ands = append(m.Ands, [2]int{a, b})
	return 2 * (m.Inputs + len(m.Latches) + len(m.Ands))
}

func (m *maker) or(a, b int) int { return m.and(a^1, b^1) ^ 1 }

func (m *maker) xor(a, b int) int { return m.and(m.and(a, b)^1, m.and(a^1, b^1)^1) }

// nandXor is made of four gates that are inverted.
func (m *maker) nandXor(a, b int) int {
	n := m.and(a, b) ^ 1
	return m.and(m.and(a, n)^1, m.and(b, n)^1) ^ 1
}

// choice is a if s is true, else b.
func (m *maker) choice(s, a, b int) int { return m.or(m.and(s, a), m.and(s^1, b)) }

func (m *maker) fold(list []int, join func(a, b int) int) int {
	x := list[0]
	for _, y := range list[1:] {
		x = join(x, y)
	}
	return x
}

// tree joins two by two.
func (m *maker) tree(list []int, join func(a, b int) int) int {
	for len(list) > 1 {
		var half []int
		for i := 0; i+1 < len(list); i += 2 {
			half = append(half, join(list[i], list[i+1]))
		}
		if len(list)%2 == 1 {
			half = append(half, list[len(list)-1])
		}
		list = half
	}
	return list[0]
}

func (m *maker) out(literals ...int) { m.Outputs = append(m.Outputs, literals...) }

// add sums up two words bit by bit.
func (m *maker) add(a, b []int) []int {
	var sum []int
	carry := 0
	for i := range a {
		x := m.xor(a[i], b[i])
		sum = append(sum, m.xor(x, carry))
		if i+1 < len(a) {
			carry = m.or(m.and(a[i], b[i]), m.and(x, carry))
		}
	}
	return sum
}

// addByChoice sums up two words in another way.
func (m *maker) addByChoice(a, b []int) []int {
	var sum []int
	carry := 0
	for i := range a {
		x := m.nandXor(a[i], b[i])
		sum = append(sum, m.nandXor(carry, x))
		carry = m.choice(x, carry, b[i])
	}
	return sum
}

// multiply gives as many bits as each word has.
func (m *maker) multiply(a, b []int) []int {
	var sum []int
	for i := range a {
		var row []int
		for k := range len(b) - i {
			row = append(row, m.and(a[i], b[k]))
		}
		if i == 0 {
			sum = row
			continue
		}
		copy(sum[i:], m.add(sum[i:], row))
	}
	return sum
}

func shuffled(r *rand.Rand, list []int) []int {
	list = slices.Clone(list)
	r.Shuffle(len(list), func(i, k int) { list[i], list[k] = list[k], list[i] })
	return list
}
