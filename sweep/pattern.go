package sweep

const (
	someBlocks = 32      // are run where there are too many patterns
	mostRun    = 1 << 22 // variables that may be run at a block, for all patterns to be run
)

// patterns tells what heads are worth in each of some blocks.
type patterns struct {
	blocks int
	isAll  bool // there are no other patterns
	head   func(v, number int) block
}

// patternsOf gives all patterns of the heads, or, if they are too many, some.
func (l *layers) patternsOf() patterns {
	bits := max(0, len(l.heads)-blockBits)
	if bits > 30 || l.variables()<<bits > mostRun {
		return patterns{blocks: someBlocks, head: someWorth}
	}
	return patterns{blocks: 1 << bits, isAll: true, head: counting()}
}

// counting gives heads the bits of all numbers, one behind the other.
func counting() func(v, number int) block {
	var within [blockBits]block
	for i := range within {
		for k := range 1 << blockBits {
			within[i][k>>wordBits] |= uint64(k>>i&1) << (k % (1 << wordBits))
		}
	}
	return func(v, number int) block {
		if v <= blockBits {
			return within[v-1]
		}
		return filled(number>>(v-1-blockBits)&1 == 1)
	}
}

// filled is a block of one worth.
func filled(worth bool) block {
	var b block
	if worth {
		for k := range b {
			b[k] = ^b[k]
		}
	}
	return b
}

// someWorth gives a head any worths. In some words few are true, in others few are false, more or less of them from block to block: gates with many literals show nothing elsewhere.
func someWorth(v, number int) block {
	var b block
	seed := mixed(uint64(number)<<32 | uint64(v))
	next := func() uint64 {
		seed++
		return mixed(seed)
	}
	for k := range b {
		b[k] = next()
	}
	for range number % 16 {
		b[blockWords-2] &= next()
		b[blockWords-1] |= next()
	}
	return b
}

// mixed makes of numbers that are near to each other such as look like any numbers.
func mixed(x uint64) uint64 {
	x += 0x9e3779b97f4a7c15
	x = (x ^ x>>30) * 0xbf58476d1ce4e5b9
	x = (x ^ x>>27) * 0x94d049bb133111eb
	return x ^ x>>31
}
