package word

import "gatewright/api"

// memo keeps the nodes of operands: a design may have one list of them at many places, which written out would have no end.
type memo struct {
	made    map[where]*list
	inside  *list           // whose nodes are being made
	readers map[int][]*list // of each net, the lists in which it stands
}

// where a list of operands lies.
type where struct {
	first *api.Exp
	count int
}

// list is operands, whose nodes are right as long as no net changes that stands in them.
type list struct {
	nodes   []int
	isRight bool
	above   []*list // in which it stands
}

func newMemo() memo {
	return memo{made: make(map[where]*list), readers: make(map[int][]*list)}
}

// note keeps in mind that a net stands in the list whose nodes are being made.
func (m *memo) note(net int) {
	if m.inside != nil {
		m.readers[net] = append(m.readers[net], m.inside)
	}
}

// forget gives up what hangs on a net.
func (m *memo) forget(net int) {
	for _, l := range m.readers[net] {
		l.giveUp()
	}
	delete(m.readers, net)
}

func (l *list) giveUp() {
	if !l.isRight {
		return
	}
	l.isRight = false
	above := l.above
	l.above = nil
	for _, a := range above {
		a.giveUp()
	}
}

// operands gives the nodes of operands.
func (r *routine) operands(args []api.Exp) []int {
	key := where{&args[0], len(args)}
	l := r.made[key]
	if l == nil {
		l = &list{nodes: make([]int, len(args))}
		r.made[key] = l
	}
	outer := r.inside
	if !l.isRight {
		r.inside = l
		for i := range args {
			l.nodes[i] = r.exp(&args[i])
		}
		l.isRight = true
		r.inside = outer
	}
	if outer != nil {
		l.above = append(l.above, outer)
	}
	return l.nodes
}
