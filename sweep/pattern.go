package sweep

import "gatewright/pattern"

const (
	someBlocks = 32      // are run where there are too many patterns
	mostRun    = 1 << 22 // variables that may be run at a block, for all patterns to be run
)

// patterns tells what heads are worth in each of some blocks.
type patterns struct {
	blocks int
	isAll  bool // there are no other patterns
	head   func(v, number int) pattern.Block
}

// patternsOf gives all patterns of the heads, or, if they are too many, some.
func (l *layers) patternsOf() patterns {
	bits := max(0, len(l.heads)-pattern.BlockBits)
	if bits > 30 || l.variables()<<bits > mostRun {
		return patterns{blocks: someBlocks, head: pattern.Some}
	}
	return patterns{blocks: 1 << bits, isAll: true, head: pattern.Counting()}
}

// run tells what all variables are worth, into values, where the heads are worth what is told.
func (l *layers) run(values []pattern.Block, head func(v int) pattern.Block) {
	values[0] = pattern.Block{}
	for v := 1; v < l.first; v++ {
		values[v] = head(v)
	}
	pattern.Run(values, l.ands)
}
