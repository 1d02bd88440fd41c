package place

import "slices"

// mostPasses bounds how often all tables are moved. It is more than is of use as a rule.
const mostPasses = 8

// settle puts all tables into columns, and tells whether none of these is too full. Tables are moved one by one: those that had better be moved together may stay where they begin, so it begins at either side.
func (p *plan) settle() bool {
	if len(p.items)-p.first > p.shape.Rows*p.shape.Cols {
		return false
	}
	p.putLate()
	if p.spread(true) {
		return true
	}
	p.putEarly()
	return p.spread(false)
}

// putLate puts each table as far behind as may be: so opposites that only outputs and registers take stand in the last column alone.
func (p *plan) putLate() {
	p.takeAllOut()
	for i := len(p.items) - 1; i >= p.first; i-- {
		p.put(i, p.latest(i))
	}
	p.countLoads()
}

// putEarly puts each table as far to the front as may be.
func (p *plan) putEarly() {
	p.takeAllOut()
	for i := p.first; i < len(p.items); i++ {
		p.put(i, p.earliest(i))
	}
	p.countLoads()
}

// takeAllOut leaves no takers but outputs and registers.
func (p *plan) takeAllOut() {
	for i := range p.items {
		takers := make([]int32, p.shape.Cols+1)
		if p.items[i].isEnd {
			takers[p.shape.Cols] = 1
		}
		p.items[i].takers = takers
	}
}

func (p *plan) put(i, column int) {
	p.items[i].column = column
	for _, in := range p.items[i].ins {
		p.items[in].takers[column]++
	}
}

func (p *plan) countLoads() {
	clear(p.loads)
	for i := range p.items {
		p.load(p.from(i), p.until(i), 1)
	}
}

// load adds to the loads of some columns.
func (p *plan) load(from, until, more int) {
	for column := from; column < until; column++ {
		p.loads[column] += more
	}
}

// spread moves tables until no column is too full, and tells whether that came about. By turns all of them go forth and back, so that those that are moved make room for those that come next.
func (p *plan) spread(toFront bool) bool {
	for range mostPasses {
		if p.isSpread() {
			return true
		}
		if toFront {
			for i := p.first; i < len(p.items); i++ {
				p.move(i, toFront)
			}
		} else {
			for i := len(p.items) - 1; i >= p.first; i-- {
				p.move(i, toFront)
			}
		}
		toFront = !toFront
	}
	return p.isSpread()
}

func (p *plan) isSpread() bool {
	return slices.Max(p.loads) <= p.shape.Rows
}

// move puts a table where it does least harm.
func (p *plan) move(i int, toFront bool) {
	own := &p.items[i]
	p.load(own.column, p.until(i), -1)
	stays := make([]int, len(own.ins)) // until when the inputs are held for others
	for k, in := range own.ins {
		end := p.until(in)
		p.items[in].takers[own.column]--
		stays[k] = p.until(in)
		p.load(stays[k], end, -1)
	}
	p.put(i, p.best(i, stays, toFront))
	for k, in := range own.ins {
		p.load(stays[k], p.until(in), 1)
	}
	p.load(own.column, p.until(i), 1)
}

// best tells the column in which a table, which is taken out, makes least cells too many: the columns ahead of it hold its inputs, those from it on hold itself.
func (p *plan) best(i int, stays []int, toFront bool) int {
	first, last := p.earliest(i), p.latest(i)
	best, least, sum := first, 0, 0
	for column := first; column < last; column++ {
		sum += p.tooMany(column, unheld(stays, column)) - p.tooMany(column, 1)
		if sum < least || sum == least && !toFront {
			best, least = column+1, sum
		}
	}
	return best
}

// tooMany tells by how many cells a column is too small for what it holds and so many items more.
func (p *plan) tooMany(column, more int) int {
	return max(0, p.loads[column]+more-p.shape.Rows)
}

// unheld counts the inputs that a column does not hold for others.
func unheld(stays []int, column int) int {
	count := 0
	for _, stay := range stays {
		if stay <= column {
			count++
		}
	}
	return count
}
