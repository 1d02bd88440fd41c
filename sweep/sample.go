package sweep

import "gatewright/pattern"

// sample is a pattern at which two variables part: what some heads are worth.
type sample struct {
	heads []int
	worth []bool
}

// sampleWords is how many words of a block are near to samples. The others have any patterns: where one gate is false for ever so many patterns, those behind it may show nothing.
const sampleWords = 4

// near gives what heads are worth in a block of patterns, some of them near to samples, of which there are no more than sampleWords: each word of these begins with a sample; behind it stand patterns that are its opposite at some of its heads, few at first, then more. So one sample tells many variables apart.
func (l *layers) near(samples []sample, number int) func(v int) pattern.Block {
	blocks := make([]pattern.Block, l.first)
	for v := range blocks {
		blocks[v] = pattern.Some(v, someBlocks+number)
	}
	for k := range sampleWords {
		s := samples[k%len(samples)]
		flips := pattern.Flips(len(s.heads), uint64(number*sampleWords+k))
		for i, v := range s.heads {
			blocks[v][k] = flips[i]
			if s.worth[i] {
				blocks[v][k] = ^flips[i]
			}
		}
	}
	return func(v int) pattern.Block { return blocks[v] }
}
