package equal

import (
	"math/bits"

	"gatewright/pattern"
)

const (
	mostStateBits = 64      // latches
	mostInputBits = 24      // inputs
	mostStates    = 1 << 23 // that are kept
	blockWork     = 1000    // for a block of patterns, beside its gates
)

// states are what the latches of a core are worth, in the order in which they are met: first that of the first cycle, then those of the next one, and so on. Bit i of a state is latch i.
type states struct {
	*core
	most   int // are kept
	list   []uint64
	from   []int32  // by state: the one ahead of it
	by     []uint32 // by state: the inputs that lead to it, as bits
	places []int32  // a table of hashes: the number of a state and 1, or 0
	done   int      // how many have been looked at
	end    int      // of the states of this cycle
	cycle  int
	values []pattern.Block // by variable of the core, while it is run
	input  func(v, number int) pattern.Block
}

func newStates(c *core, most int) *states {
	s := &states{
		core:   c,
		most:   most,
		places: make([]int32, 1<<8),
		input:  pattern.Counting(),
	}
	var first uint64
	for i, l := range c.latches {
		if l.Init {
			first |= 1 << i
		}
	}
	s.meet(first, 0, 0)
	s.end = 1
	return s
}

// isAble asks whether there are not too many latches, inputs or states.
func (s *states) isAble() bool {
	return len(s.latches) <= mostStateBits && len(s.inputs) <= mostInputBits && len(s.list) < s.most
}

// agreed tells in how many cycles outputs do not part.
func (s *states) agreed() int {
	if s.done == len(s.list) {
		return mostDepth
	}
	return s.cycle
}

// seek looks at states, as far as the work goes, until outputs part.
func (s *states) seek(work, depth int, room []pattern.Block) (trace [][]bool) {
	s.values = room[:s.variables()]
	s.values[0] = pattern.Block{}
	for work > 0 && s.isAble() && s.agreed() < depth {
		count := min(s.end-s.done, max(1, 1<<pattern.BlockBits>>len(s.inputs)))
		for number := range max(1, 1<<len(s.inputs)>>pattern.BlockBits) {
			s.run(s.done, count, number)
			work -= blockWork + len(s.ands)
			if at, isThere := s.parting(count); isThere {
				return s.traceTo(s.done+at>>len(s.inputs), s.spelled(at, number))
			}
			s.meetAll(s.done, count, number)
		}
		s.done += count
		if s.done == s.end {
			s.cycle++
			s.end = len(s.list)
		}
	}
	return nil
}

// spelled is the inputs at a pattern of a block.
func (s *states) spelled(at, number int) uint32 {
	return uint32(number<<pattern.BlockBits|at) & (1<<len(s.inputs) - 1)
}

// run tells what all variables are worth at some states, each with all inputs, or as many of them as are in a block.
func (s *states) run(from, count, number int) {
	for i := range s.inputs {
		s.values[1+i] = s.input(1+i, number)
	}
	latches := s.values[1+len(s.inputs):]
	for i := range s.latches {
		latches[i] = pattern.Block{}
	}
	size := min(1<<len(s.inputs), 1<<pattern.BlockBits)
	for k := range count {
		for i := range s.latches {
			if s.list[from+k]>>i&1 == 1 {
				fill(&latches[i], k*size, size)
			}
		}
	}
	pattern.Run(s.values, s.ands)
}

// fill makes some patterns of a block true.
func fill(b *pattern.Block, from, count int) {
	const word = 1 << pattern.WordBits
	if count < word {
		b[from/word] |= (1<<count - 1) << (from % word)
		return
	}
	for k := from / word; k < (from+count)/word; k++ {
		b[k] = ^uint64(0)
	}
}

// parting finds a pattern at which outputs part, among those of so many states.
func (s *states) parting(count int) (at int, isThere bool) {
	patterns := count << len(s.inputs)
	for k := range pattern.BlockWords {
		var all uint64
		for _, p := range s.outputs {
			all |= s.word(p[0], k) ^ s.word(p[1], k)
		}
		if all == 0 {
			continue
		}
		at = k<<pattern.WordBits + bits.TrailingZeros64(all)
		return at, at < patterns
	}
	return 0, false
}

func (s *states) word(literal, k int) uint64 {
	return s.values[literal/2][k] ^ -uint64(literal%2)
}

// meetAll meets the states behind those that have been run.
func (s *states) meetAll(from, count, number int) {
	patterns := count << len(s.inputs)
	for k := range pattern.BlockWords {
		var rows [64]uint64
		for i, l := range s.latches {
			rows[i] = s.word(l.Next, k)
		}
		turn(&rows)
		for i, state := range rows {
			at := k<<pattern.WordBits + i
			if at >= patterns {
				return
			}
			s.meet(state, from+at>>len(s.inputs), s.spelled(at, number))
		}
	}
}

// turn makes columns of the rows of bits.
func turn(rows *[64]uint64) {
	mask := uint64(1<<32 - 1)
	for size := 32; size > 0; size /= 2 {
		for k := 0; k < 64; k = (k + size + 1) &^ size {
			x := (rows[k]>>size ^ rows[k+size]) & mask
			rows[k] ^= x << size
			rows[k+size] ^= x
		}
		mask ^= mask << (size / 2)
	}
}

// meet notes a state, unless it has been met.
func (s *states) meet(state uint64, from int, by uint32) {
	if 2*len(s.list) >= len(s.places) {
		s.widen()
	}
	at := s.placeOf(state)
	if s.places[at] != 0 {
		return
	}
	s.list = append(s.list, state)
	s.from = append(s.from, int32(from))
	s.by = append(s.by, by)
	s.places[at] = int32(len(s.list))
}

// placeOf is where a state is in the table, or is to be.
func (s *states) placeOf(state uint64) int {
	last := len(s.places) - 1
	at := int(pattern.Mixed(state)) & last
	for s.places[at] != 0 && s.list[s.places[at]-1] != state {
		at = (at + 1) & last
	}
	return at
}

func (s *states) widen() {
	s.places = make([]int32, 2*len(s.places))
	for i, state := range s.list {
		s.places[s.placeOf(state)] = int32(i + 1)
	}
}

// traceTo is the way to a state, and inputs there.
func (s *states) traceTo(state int, last uint32) [][]bool {
	trace := make([][]bool, s.cycle+1)
	for cycle := s.cycle; cycle >= 0; cycle-- {
		trace[cycle] = s.row(func(i int) bool { return last>>i&1 == 1 })
		last = s.by[state]
		state = int(s.from[state])
	}
	return trace
}
