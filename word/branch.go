package word

import (
	"slices"

	"gatewright/api"
)

// branch is where in the ifs of a process the acts stand that are gone through. What is set there waits, with the path that leads there as its condition, until it is read somewhere else: so ifs within ifs cost no more than ifs behind each other.
type branch struct {
	path    int              // a node: whether the acts run
	scopes  []scope          // the branches that lead there
	open    map[int]int      // how often each path is among theirs
	closed  []span           // when what was done cannot have been done, since the other branch is taken
	time    int              // how many steps have come to wait
	waiting map[int][][]step // of each net, of each bit, what waits to be set
	twins   map[int]twin     // of the path of each else, what belongs to it
}

// scope is a branch that is gone through.
type scope struct {
	begun int
	seen  []int // nets that were read as they are in that branch alone
}

type span struct {
	from, to int
}

// step is that a bit becomes another one, if a path is taken.
type step struct {
	path, time int
	bit        part
}

// twin is an if, of which one has its else: the path of its then, the path that leads to it, its condition.
type twin struct {
	then, outer, asked int
}

func newBranch(always int) branch {
	return branch{path: always, open: make(map[int]int), waiting: make(map[int][][]step), twins: make(map[int]twin)}
}

// branches goes through both branches of an act, or through the one that is taken for sure.
func (r *routine) branches(a *api.Act) {
	asked := r.exp(&a.If)
	if r.is(asked, 1) {
		r.acts(a.Then)
		return
	}
	if r.is(asked, 0) {
		r.acts(a.Else)
		return
	}
	then := r.operation(api.XAnd, 1, r.path, asked)
	other := r.operation(api.XAnd, 1, r.path, r.operation(api.XNot, 1, asked))
	r.twins[other] = twin{then, r.path, asked}
	from := r.time
	r.along(a.Then, then)
	r.closed = append(r.closed, span{from, r.time})
	r.along(a.Else, other)
	r.closed = r.closed[:len(r.closed)-1]
}

// along goes through acts that run only if a path is taken.
func (r *routine) along(acts []api.Act, path int) {
	outer := r.path
	r.path = path
	r.open[path]++
	r.scopes = append(r.scopes, scope{begun: r.time})
	r.acts(acts)
	last := len(r.scopes) - 1
	for _, net := range r.scopes[last].seen {
		r.forget(net)
	}
	r.scopes = r.scopes[:last]
	r.open[path]--
	r.path = outer
}

// put sets bits of a net, if the path is taken.
func (r *routine) put(id, lo int, bits []part) {
	r.forget(id)
	width := widthOf(bits)
	if !r.is(r.path, 1) {
		for i := range width {
			r.wait(id, lo+i, cut(bits, i, 1)[0])
		}
		return
	}
	r.values[id] = with(r.valueOf(id), lo, bits)
	if steps := r.waiting[id]; steps != nil {
		clear(steps[lo : lo+width])
		r.tidy(id)
	}
}

// tidy strikes off a net for which nothing waits.
func (r *routine) tidy(id int) {
	if !slices.ContainsFunc(r.waiting[id], func(steps []step) bool { return len(steps) > 0 }) {
		delete(r.waiting, id)
	}
}

// wait keeps a step of a bit. Steps that came in the same branch, or in one within it, would be undone by it.
func (r *routine) wait(id, bit int, becomes part) {
	if r.waiting[id] == nil {
		r.waiting[id] = make([][]step, r.widthOfNet(id))
	}
	steps := r.waiting[id][bit]
	begun := r.scopes[len(r.scopes)-1].begun
	for len(steps) > 0 && steps[len(steps)-1].time >= begun {
		steps = steps[:len(steps)-1]
	}
	r.waiting[id][bit] = append(steps, step{r.path, r.time, becomes})
	r.time++
}

// now tells what bits of a net are worth at the place that is gone through.
func (r *routine) now(id, lo, width int) []part {
	if r.waiting[id] == nil {
		return cut(r.valueOf(id), lo, width)
	}
	r.settle(r.unclear(id, lo, width))
	all := cut(r.valueOf(id), lo, width)
	if r.waiting[id] == nil {
		return all
	}
	for i := range width {
		steps := r.waiting[id][lo+i]
		if last := r.lastOf(steps); last >= 0 {
			all = with(all, i, []part{steps[last].bit})
		}
	}
	if top := len(r.scopes) - 1; top >= 0 {
		r.scopes[top].seen = append(r.scopes[top].seen, id)
	}
	return all
}

// lastOf tells the last one of some steps that can have been made where the acts stand, or -1.
func (r *routine) lastOf(steps []step) int {
	last := len(steps) - 1
	for last >= 0 && r.isClosed(steps[last].time) {
		last--
	}
	return last
}

// isClosed asks whether a time is within a closed span: these come one behind the other.
func (r *routine) isClosed(time int) bool {
	at, _ := slices.BinarySearchFunc(r.closed, time, func(s span, time int) int {
		if s.to <= time {
			return -1
		}
		return 1
	})
	return at < len(r.closed) && r.closed[at].from <= time
}

// unclear tells of which bits it hangs on a condition what they are worth, and the steps that must be made to tell it. A step whose path leads to the place that is gone through has been made for sure.
func (r *routine) unclear(id, lo, width int) []slot {
	var row []slot
	for bit := lo; bit < lo+width; bit++ {
		steps := r.waiting[id][bit]
		if last := r.lastOf(steps); last >= 0 && r.open[steps[last].path] == 0 {
			row = append(row, slot{id, bit, steps[:last+1]})
		}
	}
	return row
}
