package sat

// place is where a clause begins among the cells.
type place int32

const nowhere place = -1

// A clause lies in the cells as its length, the number of its note, where among its literals another one to be watched is looked for first, and these, of which the first two are watched.
const (
	lengthCell = iota
	noteCell
	nextCell
	headCells
)

// store has the clauses, of two literals at least, and who watches which literal.
type store struct {
	cells   []literal
	notes   []note
	watches [][]watch // by literal: the clauses to be looked at when it becomes false
}

// note is what is known of a clause beside its literals.
type note struct {
	at     place
	number int32 // in the book
	glue   int32 // over how many levels its literals were spread when it was made; 0: it is the formula's
	used   int8  // for how many more times it is not to be dropped
}

// watch of a clause. Another literal of it is at hand: where that is true there is nothing to do. Of a clause of two literals it is the rest, and the place is turned round.
type watch struct {
	at    place
	other literal
}

func (w watch) isShort() bool { return w.at < 0 }

func (w watch) clause() place {
	if w.isShort() {
		return ^w.at
	}
	return w.at
}

// reserve makes room at one time for those who will watch the first literals of clauses; nobody watches anything yet.
func (s *store) reserve(clauses [][]int) {
	counts := make([]int, len(s.watches))
	all := 0
	for _, c := range clauses {
		if len(c) > 1 {
			counts[literalOf(c[0])]++
			counts[literalOf(c[1])]++
			all += 2
		}
	}
	room := make([]watch, all)
	for l, count := range counts {
		s.watches[l] = room[:0:count]
		room = room[count:]
	}
}

// literals of a clause: they may be laid in another order, but that the first two are watched.
func (s *store) literals(c place) []literal {
	from := c + headCells
	return s.cells[from : from+place(s.cells[c+lengthCell])]
}

func (s *store) noteOf(c place) *note { return &s.notes[s.cells[c+noteCell]] }

// lay keeps a clause.
func (s *store) lay(list []literal, number, glue int32) place {
	c := place(len(s.cells))
	s.cells = append(s.cells, literal(len(list)), literal(len(s.notes)), 2)
	s.cells = append(s.cells, list...)
	s.notes = append(s.notes, note{at: c, number: number, glue: glue})
	s.watchBoth(c)
	return c
}

func (s *store) watchBoth(c place) {
	list := s.literals(c)
	at := c
	if len(list) == 2 {
		at = ^c
	}
	s.watches[list[0]] = append(s.watches[list[0]], watch{at, list[1]})
	s.watches[list[1]] = append(s.watches[list[1]], watch{at, list[0]})
}

// drop gives away some clauses, told by their notes, and tells where each of the others now lies.
func (s *store) drop(isDropped []bool) []place {
	former, notes := s.cells, s.notes
	s.cells, s.notes = make([]literal, 0, len(former)), make([]note, 0, len(notes))
	for l := range s.watches {
		s.watches[l] = s.watches[l][:0]
	}
	moved := make([]place, len(notes))
	for i, n := range notes {
		if isDropped[i] {
			continue
		}
		from := n.at + headCells
		moved[i] = s.lay(former[from:from+place(former[n.at+lengthCell])], n.number, n.glue)
		s.noteOf(moved[i]).used = n.used
	}
	return moved
}
