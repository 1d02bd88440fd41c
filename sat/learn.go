package sat

// What is known of a variable while a clause is learnt.
const (
	unmet = iota
	met   // it is in the clause, or has been resolved
	spare // it hangs on variables of the clause alone
	firm  // it does not
)

const deepest = 1000 // steps from one reason to the next, until it is left open whether a literal is spare

// lesson is the clause that is being learnt.
type lesson struct {
	list    []literal // the first one is of the last level
	sources []int32   // numbers in the book
	mark    []int8    // by variable
	marked  []int32   // whose mark is not unmet
	isLevel []bool    // by level: whether some literal of the clause is of it
}

func (n *lesson) grow(more int) {
	n.mark = append(n.mark, make([]int8, more)...)
}

// reserve makes room for so many levels.
func (n *lesson) reserve(levels int) {
	n.isLevel = append(n.isLevel, make([]bool, max(0, levels+1-len(n.isLevel)))...)
}

func (n *lesson) setMark(v int, mark int8) {
	if n.mark[v] == unmet {
		n.marked = append(n.marked, int32(v))
	}
	n.mark[v] = mark
}

func (n *lesson) begin() {
	for _, v := range n.marked {
		n.mark[v] = unmet
	}
	n.marked, n.sources = n.marked[:0], n.sources[:0]
	n.list = append(n.list[:0], 0)
}

// learn makes a clause of one that has become false, goes back to where it would have told something, and tells it.
func (s *solver) learn(c place) {
	n := &s.lesson
	n.begin()
	s.resolve(c)
	glue := s.spread()
	s.shorten()
	s.pace.note(int(glue))
	s.age()
	number := s.book.add(n.list, n.sources)
	s.backTo(s.lastButOne())
	if len(n.list) == 1 {
		s.setFact(n.list[0], number)
		return
	}
	s.set(n.list[0], s.lay(n.list, number, glue))
}

// resolve goes back on the trail from a false clause, and puts reasons in the place of what they set, until one literal alone is of the last level.
func (s *solver) resolve(c place) {
	n := &s.lesson
	open := s.takeIn(c, -1)
	at := len(s.trail)
	for {
		at--
		for n.mark[s.trail[at].variable()] == unmet {
			at--
		}
		l := s.trail[at]
		open--
		if open == 0 {
			n.list[0] = l.opposite()
			return
		}
		open += s.takeIn(s.reason[l.variable()], l.variable())
	}
}

// takeIn takes the literals of a clause, without the variable that it set, and tells how many new ones are of the last level.
func (s *solver) takeIn(c place, but int) int {
	n := &s.lesson
	s.use(c)
	open := 0
	for _, l := range s.literals(c) {
		v := l.variable()
		if v == but || n.mark[v] != unmet {
			continue
		}
		n.setMark(v, met)
		switch int(s.level[v]) {
		case 0:
			n.sources = append(n.sources, s.fact[v])
			continue
		case len(s.begins):
			open++
		default:
			n.list = append(n.list, l)
		}
		s.meet(v)
	}
	return open
}

// use notes that a clause is a source, and worth keeping.
func (s *solver) use(c place) {
	note := s.noteOf(c)
	s.lesson.sources = append(s.lesson.sources, note.number)
	switch {
	case note.glue > goodGlue:
		note.used = 1
	case note.glue > 0:
		note.used = 2
	}
}

// spread tells of how many levels the literals of the clause are.
func (s *solver) spread() int32 {
	n := &s.lesson
	clear(n.isLevel[:len(s.begins)+1])
	count := int32(0)
	for _, l := range n.list {
		level := s.level[l.variable()]
		if !n.isLevel[level] {
			n.isLevel[level] = true
			count++
		}
	}
	return count
}

// shorten leaves out the literals that are false because others of the clause are.
func (s *solver) shorten() {
	n := &s.lesson
	kept := n.list[:1]
	for _, l := range n.list[1:] {
		if !s.hangs(l.variable(), 0) {
			kept = append(kept, l)
		}
	}
	n.list = kept
}

// isSpare asks whether a variable is set because variables of the clause are, and nothing else.
func (s *solver) isSpare(v, depth int) bool {
	n := &s.lesson
	if s.level[v] == 0 {
		return true
	}
	switch n.mark[v] {
	case met, spare:
		return true
	case firm:
		return false
	}
	if depth > deepest || !n.isLevel[s.level[v]] || !s.hangs(v, depth) {
		n.setMark(v, firm)
		return false
	}
	n.setMark(v, spare)
	return true
}

// hangs asks whether all that set a variable is in the clause, or spare.
func (s *solver) hangs(v, depth int) bool {
	n := &s.lesson
	c := s.reason[v]
	if c == nowhere {
		return false
	}
	for _, l := range s.literals(c) {
		if w := l.variable(); w != v && !s.isSpare(w, depth+1) {
			return false
		}
	}
	n.sources = append(n.sources, s.noteOf(c).number)
	for _, l := range s.literals(c) {
		if w := l.variable(); s.level[w] == 0 && n.mark[w] == unmet {
			n.setMark(w, met)
			n.sources = append(n.sources, s.fact[w])
		}
	}
	return true
}

// lastButOne tells the greatest level of the clause's literals but for the first, and lays such a literal second.
func (s *solver) lastButOne() int {
	list := s.lesson.list
	if len(list) == 1 {
		return 0
	}
	for i := range list {
		if i > 1 && s.level[list[i].variable()] > s.level[list[1].variable()] {
			list[1], list[i] = list[i], list[1]
		}
	}
	return int(s.level[list[1].variable()])
}
