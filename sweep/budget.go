package sweep

import "math"

// mostWhole is how many gates a graph may have of which each question is answered, however hard it is.
const mostWhole = 300

// The work that may be done for a larger graph, counted in clauses that the solver looks at.
const (
	allWork   = 1 << 26
	leastWork = 1 << 15 // for each question
	gateWork  = 50      // for a gate that is put into a formula
	runWork   = 4       // for a variable that is run at a block of patterns
	restParts = 15      // of the work that is left, how many parts beside those of the questions of the moment are kept back
)

// budget bounds the work that is done.
type budget struct {
	work  int // that may still be done
	share int // of each question
}

func newBudget(gates int) budget {
	if gates <= mostWhole {
		return budget{work: math.MaxInt}
	}
	return budget{work: allWork}
}

func (b *budget) isEndless() bool { return b.work == math.MaxInt }

func (b *budget) isSpent() bool { return b.work <= 0 }

// divide tells the share of each of some questions.
func (b *budget) divide(questions int) {
	b.share = math.MaxInt
	if !b.isEndless() {
		b.share = max(leastWork, b.work/(restParts+questions))
	}
}

func (b *budget) spend(work int) {
	if !b.isEndless() {
		b.work -= work
	}
}
