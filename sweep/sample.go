package sweep

// sample is a pattern at which two variables part: what some heads are worth.
type sample struct {
	heads []int
	worth []bool
}

// sampleWords is how many words of a block are near to samples. The others have any patterns: where one gate is false for ever so many patterns, those behind it may show nothing.
const sampleWords = 4

// near gives what heads are worth in a block of patterns, some of them near to samples, of which there are no more than sampleWords: each word of these begins with a sample; behind it stand patterns that are its opposite at some of its heads, few at first, then more. So one sample tells many variables apart.
func (l *layers) near(samples []sample, number int) func(v int) block {
	blocks := make([]block, l.first)
	for v := range blocks {
		blocks[v] = someWorth(v, someBlocks+number)
	}
	for k := range sampleWords {
		s := samples[k%len(samples)]
		flips := s.flips(uint64(number*sampleWords + k))
		for i, v := range s.heads {
			blocks[v][k] = flips[i]
			if s.worth[i] {
				blocks[v][k] = ^flips[i]
			}
		}
	}
	return func(v int) block { return blocks[v] }
}

// flips tells for each head of a sample at which patterns of a word it is its opposite: at the first one none is.
func (s *sample) flips(seed uint64) []uint64 {
	flips := make([]uint64, len(s.heads))
	for pattern := 1; pattern < 1<<wordBits && len(flips) > 0; pattern++ {
		for i := range 1 << (pattern / 16) {
			chosen := mixed(seed<<16|uint64(pattern<<8|i)) % uint64(len(flips))
			flips[chosen] ^= 1 << pattern
		}
	}
	return flips
}
