package sweep

// A block has 2 to the blockBits patterns, in words.
const (
	wordBits   = 6
	blockBits  = 9
	blockWords = 1 << (blockBits - wordBits)
)

// block is what a variable is worth at many patterns: at many worths of the heads.
type block [blockWords]uint64

// run tells what all variables are worth, into values, where the heads are worth what is told.
func (l *layers) run(values []block, head func(v int) block) {
	values[0] = block{}
	for v := 1; v < l.first; v++ {
		values[v] = head(v)
	}
	gates := values[l.first:]
	for i, and := range l.ands {
		one, other := &values[and[0]/2], &values[and[1]/2]
		turnOne, turnOther := -uint64(and[0]%2), -uint64(and[1]%2)
		value := &gates[i]
		for k := range value {
			value[k] = (one[k] ^ turnOne) & (other[k] ^ turnOther)
		}
	}
}
