package sweep

import (
	"math/rand"
	"slices"

	"gatewright/api"
)

// maker makes graphs. All its inputs are taken ahead of its gates.
type maker struct{ api.Graph }

func (m *maker) inputs(count int) []int {
	var list []int
	for range count {
		m.Inputs++
		list = append(list, 2*m.Inputs)
	}
	return list
}

func (m *maker) and(a, b int) int {
	m.Ands = append(m.Ands, [2]int{a, b})
	return 2 * (m.Inputs + len(m.Latches) + len(m.Ands))
}

func (m *maker) or(a, b int) int { return m.and(a^1, b^1) ^ 1 }

func (m *maker) xor(a, b int) int { return m.and(m.and(a, b)^1, m.and(a^1, b^1)^1) }

// nandXor is made of four gates that are inverted.
func (m *maker) nandXor(a, b int) int {
	n := m.and(a, b) ^ 1
	return m.and(m.and(a, n)^1, m.and(b, n)^1) ^ 1
}

// norXor is made of five.
func (m *maker) norXor(a, b int) int {
	n := m.and(a^1, b^1)
	return m.and(m.and(a^1, n^1)^1, m.and(b^1, n^1)^1) ^ 1
}

// mirror is an exclusive or of three, by way of a carry.
func (m *maker) mirror(a, b, c int) int {
	both, one := m.and(a, b), m.or(a, b)
	carry := m.or(both, m.and(c, one))
	return m.or(m.and(both, c), m.and(carry^1, m.or(one, c)))
}

// choice is a if s is true, else b.
func (m *maker) choice(s, a, b int) int { return m.or(m.and(s, a), m.and(s^1, b)) }

func (m *maker) fold(list []int, join func(a, b int) int) int {
	x := list[0]
	for _, y := range list[1:] {
		x = join(x, y)
	}
	return x
}

func (m *maker) out(literals ...int) { m.Outputs = append(m.Outputs, literals...) }

// add sums up two words bit by bit.
func (m *maker) add(a, b []int) []int {
	var sum []int
	carry := 0
	for i := range a {
		x := m.xor(a[i], b[i])
		sum = append(sum, m.xor(x, carry))
		carry = m.or(m.and(a[i], b[i]), m.and(x, carry))
	}
	return sum
}

// addByChoice sums up two words in another way: it looks at the highest carry that is made, bit by bit from above.
func (m *maker) addByChoice(a, b []int) []int {
	var sum []int
	for i := range a {
		carry := 0
		for k := range i {
			carry = m.choice(m.nandXor(a[k], b[k]), carry, b[k])
		}
		sum = append(sum, m.norXor(m.nandXor(a[i], carry), b[i]))
	}
	return sum
}

func (m *maker) multiply(a, b []int) []int {
	sum := make([]int, len(a)+len(b))
	for i := range a {
		row := make([]int, len(sum))
		for k := range b {
			row[i+k] = m.and(a[i], b[k])
		}
		sum = m.add(sum, row)
	}
	return sum
}

func shuffled(r *rand.Rand, list []int) []int {
	list = slices.Clone(list)
	r.Shuffle(len(list), func(i, k int) { list[i], list[k] = list[k], list[i] })
	return list
}

// grown makes a random graph that is valid. Literals are of any variable ahead, or (near above 0) most often of one of the last ones.
func grown(r *rand.Rand, inputs, latches, ands, outputs, near int) api.Graph {
	g := api.Graph{Inputs: inputs}
	literal := func(variables int) int {
		if near == 0 || r.Intn(6) == 0 {
			return r.Intn(2 * variables)
		}
		return 2*max(0, variables-1-r.Intn(near)) + r.Intn(2)
	}
	for i := range ands {
		v := 1 + inputs + latches + i
		g.Ands = append(g.Ands, [2]int{literal(v), literal(v)})
	}
	all := 1 + inputs + latches + ands
	for range latches {
		g.Latches = append(g.Latches, api.Latch{Next: literal(all), Init: r.Intn(2) == 0})
	}
	for range outputs {
		g.Outputs = append(g.Outputs, literal(all))
	}
	return g
}

// woven makes a random graph of words, in which much is said twice, in other ways.
func woven(r *rand.Rand, inputs, gates int) api.Graph {
	m := &maker{}
	list := m.inputs(inputs)
	for len(m.Ands) < gates {
		x, y, z := list[r.Intn(len(list))]^r.Intn(2), list[r.Intn(len(list))]^r.Intn(2), list[max(0, len(list)-1-r.Intn(8))]
		switch r.Intn(7) {
		case 0:
			list = append(list, m.and(x, z), m.and(m.and(x, x^1)^1, m.and(z, x)))
		case 1:
			list = append(list, m.xor(x, z), m.nandXor(z, x), m.norXor(x, z))
		case 2:
			list = append(list, m.choice(x, y, z), m.choice(x^1, z, y))
		case 3:
			list = append(list, m.or(m.and(x, y), z), m.and(m.or(x, z), m.or(z, y)))
		case 4:
			list = append(list, m.xor(m.xor(x, y), z), m.xor(x, m.nandXor(z, y)))
		case 5:
			list = append(list, m.or(m.or(m.and(x, y), m.and(y, z)), m.and(x, z)), m.choice(m.xor(x, y), z, y))
		default:
			list = append(list, m.or(x, m.and(x, z)), m.and(z, m.or(x^1, z)))
		}
	}
	m.Ands = m.Ands[:gates]
	for _, l := range list {
		if l/2 <= m.Inputs+gates && r.Intn(2) == 0 {
			m.out(l)
		}
	}
	return m.Graph
}

func copyOf(g api.Graph) api.Graph {
	g.Latches, g.Ands, g.Outputs = slices.Clone(g.Latches), slices.Clone(g.Ands), slices.Clone(g.Outputs)
	return g
}
