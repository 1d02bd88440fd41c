package equal

import (
	"math"

	"gatewright/sat"
)

const mostLaid = 1 << 20 // variables, of a larger joint graph

// frames are the cycles of a core, one behind the other, each with inputs of its own.
type frames struct {
	*core
	*unrolled
	cycle    int
	literals []int // by variable of the core, in this cycle; none, if it has not been laid
	before   []int // likewise, in the cycle ahead
	begins   []int // of each cycle: which of all inputs is its first
	output   int   // that is looked at
	most     int   // variables that may be laid
}

func newFrames(c *core, isWhole bool) *frames {
	f := &frames{core: c, unrolled: newUnrolled(), most: mostLaid}
	if isWhole {
		f.most = math.MaxInt
	}
	return f
}

// seek goes from cycle to cycle, as far as the work goes, until outputs part. Of each output it is told in how many cycles it is known not to part.
func (f *frames) seek(work, depth int, agreed []int) (trace [][]bool) {
	last := f.session.Looks() + work
	f.unrolled.last = last
	for f.cycle < depth && len(f.same) < f.most {
		if f.literals == nil {
			f.lay()
		}
		for f.output < len(f.outputs) {
			if f.cycle >= agreed[f.output] {
				switch f.session.Ask(max(0, last-f.session.Looks()), number(f.parting())) {
				case sat.Possible:
					return f.trace()
				case sat.LeftOpen:
					return nil
				}
				agreed[f.output] = f.cycle + 1
			}
			f.join()
			f.output++
		}
		f.leave()
	}
	return nil
}

// lay lays the gates of a cycle.
func (f *frames) lay() {
	f.literals = make([]int, f.variables())
	f.begins = append(f.begins, len(f.unrolled.inputs))
	for i := range f.core.inputs {
		f.literals[1+i] = f.input()
	}
	for i, l := range f.latches {
		at := 1 + len(f.core.inputs) + i
		switch {
		case f.before != nil:
			f.literals[at] = f.renewed(literalIn(f.before, l.Next))
		case l.Init:
			f.literals[at] = 1
		}
	}
	for i, and := range f.core.ands {
		f.literals[f.firstGate()+i] = f.and(literalIn(f.literals, and[0]), literalIn(f.literals, and[1]))
	}
}

func literalIn(literals []int, literal int) int {
	return literals[literal/2] ^ literal%2
}

// pair is the output that is looked at, in both graphs.
func (f *frames) pair() (one, other int) {
	p := f.outputs[f.output]
	return f.renewed(literalIn(f.literals, p[0])), f.renewed(literalIn(f.literals, p[1]))
}

// parting is a literal that is true if the output that is looked at parts.
func (f *frames) parting() int { return f.xor(f.pair()) }

// join makes the output one, for it does not part.
func (f *frames) join() {
	one, other := f.pair()
	if one/2 > other/2 {
		one, other = other, one
	}
	if one != other {
		f.same[other/2] = one ^ other%2
		x, y := number(one), number(other)
		f.session.Add(0, []int{x, -y}, []int{-x, y})
	}
}

// leave goes to the next cycle.
func (f *frames) leave() {
	f.before, f.literals, f.output = f.literals, nil, 0
	f.cycle++
}

// trace tells the inputs of the last model.
func (f *frames) trace() [][]bool {
	trace := make([][]bool, f.cycle+1)
	for cycle := range trace {
		trace[cycle] = f.row(func(i int) bool {
			return f.session.IsTrue(f.unrolled.inputs[f.begins[cycle]+i] + 1)
		})
	}
	return trace
}
