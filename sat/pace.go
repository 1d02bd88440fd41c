package sat

const (
	leastRun   = 2    // conflicts between two restarts
	calmRun    = 512  // likewise, in calm times, by turns some power of 2 as many
	firstTurn  = 1000 // conflicts until calm and hasty times first change
	firstDrop  = 1000 // conflicts until clauses are dropped
	laterDrops = 100  // by how many the next ones are further apart
	bestGlue   = 2    // clauses with no more are kept for ever
	goodGlue   = 6    // those with no more are kept longer than others
)

// pace tells when to begin anew from level 0: in hasty times as soon as clauses get worse than they are on the whole, in calm times seldom. It also tells when to drop clauses: at times that are further and further apart, so that at last nothing is learnt again and again.
type pace struct {
	conflicts int
	since     int     // conflicts since the last restart
	recent    float64 // the glue of the last clauses
	whole     float64 // that of many
	isCalm    bool
	turnAt    int // at how many conflicts the times change
	turn      int // how many the last time took
	runs      int // restarts in calm times
	dropAt    int // at how many conflicts clauses are dropped
	drops     int // how often that was
}

func newPace() pace {
	return pace{turnAt: firstTurn, turn: firstTurn, dropAt: firstDrop}
}

// note takes in a clause that was learnt.
func (p *pace) note(glue int) {
	const quick, slow = 1.0 / 32, 1.0 / 4096
	p.conflicts++
	p.since++
	if p.conflicts == 1 {
		p.recent, p.whole = float64(glue), float64(glue)
	}
	p.recent += float64((float64(glue) - p.recent) * quick)
	p.whole += float64((float64(glue) - p.whole) * slow)
	if p.conflicts >= p.turnAt {
		p.isCalm = !p.isCalm
		p.turn += firstTurn
		p.turnAt += p.turn
	}
}

// isToRestart asks whether to begin anew, and takes it as done.
func (p *pace) isToRestart() bool {
	const worse = 1.1
	switch {
	case p.isCalm && p.since >= calmRun*reluctant(p.runs+1):
		p.runs++
	case !p.isCalm && p.since >= leastRun && p.recent > float64(p.whole*worse):
	default:
		return false
	}
	p.since = 0
	return true
}

// isToDrop asks whether to drop clauses, and takes it as done.
func (p *pace) isToDrop() bool {
	if p.conflicts < p.dropAt {
		return false
	}
	p.drops++
	p.dropAt = p.conflicts + firstDrop + laterDrops*p.drops
	return true
}

// reluctant is the i-th number (from 1 on) of 1, 1, 2, 1, 1, 2, 4, 1, ..
func reluctant(i int) int {
	for {
		size := 1
		for size <= i {
			size *= 2
		}
		if size == i+1 {
			return size / 2
		}
		i -= size/2 - 1
	}
}
