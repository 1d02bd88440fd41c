package sim

import (
	"slices"

	"gatewright/api"
	"gatewright/fault"
)

// nobody is who runs between the processes.
const nobody = -1

// runner is a design that runs.
type runner struct {
	store
	acts    [][]act // of each process
	clocked []int   // the processes at the clock
	readers [][]int // of each net, the processes that are to run when it changes
	inputs  []target
	outputs []int
	order   []int
	choices int // that have been made
	now     int // the cycle
	running int // the process that runs, or nobody
	due     []int
	waits   []bool // of each process, whether it is among those that are due
	next    []int
	woken   []bool // of each process, whether it is among the next ones
	kept    []change
	last    bool // the delta is the last one that may be
	moved   bool // a process of it has given something another value
	before  []uint64
}

// start makes a design ready: all that is not at the clock is to run.
func start(d api.Design, order []int) *runner {
	r := &runner{store: storeOf(d.Nets), outputs: d.Outputs, order: order, running: nobody}
	r.waits = make([]bool, len(d.Procs))
	r.woken = make([]bool, len(d.Procs))
	for _, n := range d.Inputs {
		all := mask(d.Nets[n].Width)
		r.inputs = append(r.inputs, target{place: span{net: n, mask: all}, mask: all})
	}
	c := compiler{nets: d.Nets, readers: make([][]int, len(d.Nets))}
	for i := range d.Procs {
		r.acts = append(r.acts, c.process(&d.Procs[i], i))
		if d.Procs[i].Clocked {
			r.clocked = append(r.clocked, i)
		} else {
			r.wake(i)
		}
	}
	r.readers = c.readers
	return r
}

// settle runs delta by delta, until no process is to run.
func (r *runner) settle() {
	for deltas := 0; deltas < len(r.acts) && len(r.next) > 0; deltas++ {
		r.begin()
		r.delta()
	}
	if len(r.next) > 0 {
		r.lastDelta()
	}
}

// lastDelta runs the last delta that may be. Processes that set a bit there and back may wake each other for ever though nothing gets another value; chapter 4 promises that this is no loop.
func (r *runner) lastDelta() {
	r.last, r.moved = true, false
	r.begin()
	r.delta()
	r.last = false
	if len(r.next) > 0 && r.moved {
		fault.Throw(api.FLoop, r.now)
	}
	r.begin()
	r.due = r.due[:0]
}

// begin makes those that were woken due.
func (r *runner) begin() {
	r.due, r.next = r.next, r.due[:0]
	slices.Sort(r.due)
	for _, p := range r.due {
		r.woken[p] = false
	}
}

// delta runs all that are due, each once, then sets what was kept.
func (r *runner) delta() {
	for _, p := range r.due {
		r.waits[p] = true
	}
	for len(r.due) > 0 {
		k := r.choose(len(r.due))
		r.running = r.due[k]
		r.due = slices.Delete(r.due, k, k+1)
		r.waits[r.running] = false
		r.process()
	}
	r.running = nobody
	r.putFrom(0)
}

// process runs the one whose turn it is.
func (r *runner) process() {
	if !r.last {
		runAll(r.acts[r.running], r)
		return
	}
	r.before = append(r.before[:0], r.nets...)
	runAll(r.acts[r.running], r)
	r.moved = r.moved || len(r.kept) > 0 || !slices.Equal(r.before, r.nets)
}

// choose tells which one of n runs next.
func (r *runner) choose(n int) int {
	k := 0
	if len(r.order) > 0 {
		k = r.order[r.choices%len(r.order)] % n
	}
	r.choices++
	if k < 0 {
		k += n
	}
	return k
}

// change is that a place gets a value; at is which bit or word of it, if that hung on an index.
type change struct {
	to        place
	at, value uint64
}

// putFrom makes the changes that are kept, from one of them on.
func (r *runner) putFrom(first int) {
	for _, c := range r.kept[first:] {
		r.put(c)
	}
	r.kept = r.kept[:first]
}

// put makes a change, and wakes who reads what has changed by it.
func (r *runner) put(c change) {
	if !c.to.put(&r.store, c.at, c.value) {
		return
	}
	for _, p := range r.readers[c.to.of()] {
		if p != r.running && !r.waits[p] {
			r.wake(p)
		}
	}
}

// wake puts a process among the next ones.
func (r *runner) wake(p int) {
	if !r.woken[p] {
		r.woken[p] = true
		r.next = append(r.next, p)
	}
}
