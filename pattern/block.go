// Package pattern: what the variables of a graph are worth at many patterns at one time, and which of them no pattern has told apart.
package pattern

// A block has 2 to the BlockBits patterns, in words.
const (
	WordBits   = 6
	BlockBits  = 9
	BlockWords = 1 << (BlockBits - WordBits)
)

// Block is what a variable is worth at many patterns.
type Block [BlockWords]uint64

// Filled is a block of one worth.
func Filled(worth bool) Block {
	var b Block
	if worth {
		for k := range b {
			b[k] = ^b[k]
		}
	}
	return b
}

// Run tells what gates are worth, which are the last of all variables, where those ahead of them are worth what is told.
func Run(values []Block, ands [][2]int) {
	gates := values[len(values)-len(ands):]
	for i, and := range ands {
		one, other := &values[and[0]/2], &values[and[1]/2]
		turnOne, turnOther := -uint64(and[0]%2), -uint64(and[1]%2)
		value := &gates[i]
		for k := range value {
			value[k] = (one[k] ^ turnOne) & (other[k] ^ turnOther)
		}
	}
}

// Some gives a variable any worths. In some words few are true, in others few are false, more or less of them from block to block: gates with many literals show nothing elsewhere.
func Some(v, number int) Block {
	var b Block
	seed := Mixed(uint64(number)<<32 | uint64(v))
	next := func() uint64 {
		seed++
		return Mixed(seed)
	}
	for k := range b {
		b[k] = next()
	}
	for range number % 16 {
		b[BlockWords-2] &= next()
		b[BlockWords-1] |= next()
	}
	return b
}

// Flips tells for each of some variables at which patterns of a word it is to be the opposite of what it is at the first one: few of them, behind each other more.
func Flips(variables int, seed uint64) []uint64 {
	flips := make([]uint64, variables)
	for at := 1; at < 1<<WordBits && variables > 0; at++ {
		for i := range 1 << (at / 16) {
			chosen := Mixed(seed<<16|uint64(at<<8|i)) % uint64(variables)
			flips[chosen] ^= 1 << at
		}
	}
	return flips
}

// Mixed makes of numbers that are near to each other such as look like any numbers.
func Mixed(x uint64) uint64 {
	x += 0x9e3779b97f4a7c15
	x = (x ^ x>>30) * 0xbf58476d1ce4e5b9
	x = (x ^ x>>27) * 0x94d049bb133111eb
	return x ^ x>>31
}

// Counting gives variables, from 1 on, the bits of all numbers, one behind the other.
func Counting() func(v, number int) Block {
	var within [BlockBits]Block
	for i := range within {
		for k := range 1 << BlockBits {
			within[i][k>>WordBits] |= uint64(k>>i&1) << (k % (1 << WordBits))
		}
	}
	return func(v, number int) Block {
		if v <= BlockBits {
			return within[v-1]
		}
		return Filled(number>>(v-1-BlockBits)&1 == 1)
	}
}
