package sim

import (
	"slices"

	"gatewright/api"
	"gatewright/fault"
	"gatewright/habit"
)

// nobody is who runs between the processes.
const nobody = -1

// runner is a design that runs.
type runner struct {
	store
	acts    [][]act // of each process
	clocked []int   // the processes at the clock
	readers [][]int // of each net, the processes that are to run when it changes
	inputs  []target
	outputs []int
	order   []int
	choices int // that have been made
	now     int // the cycle
	running int // the process that runs, or nobody
	due     []int
	waits   []bool // of each process, whether it is among those that are due
	next    []int
	woken   []bool // of each process, whether it is among the next ones
	kept    []change
	design  *api.Design
	asked   bool // it is known whether
	rests   bool // chapter 4 promises that the design always comes to rest
}

// start makes a design ready: all that is not at the clock is to run.
func start(d *api.Design, order []int) *runner {
	r := &runner{store: storeOf(d.Nets), outputs: d.Outputs, order: order, running: nobody, design: d}
	r.waits = make([]bool, len(d.Procs))
	r.woken = make([]bool, len(d.Procs))
	for _, n := range d.Inputs {
		all := mask(d.Nets[n].Width)
		r.inputs = append(r.inputs, target{place: span{net: n, mask: all}, mask: all})
	}
	c := compiler{nets: d.Nets, readers: make([][]int, len(d.Nets))}
	for i := range d.Procs {
		r.acts = append(r.acts, c.process(&d.Procs[i], i))
		if d.Procs[i].Clocked {
			r.clocked = append(r.clocked, i)
		} else {
			r.wake(i)
		}
	}
	r.readers = c.readers
	return r
}

// settle runs delta by delta, until no process is to run.
func (r *runner) settle() {
	for deltas := 0; len(r.next) > 0; deltas++ {
		r.begin()
		if deltas <= len(r.acts) {
			r.delta()
		} else {
			r.leaveOff()
		}
	}
}

// leaveOff is what becomes of those that are due when there have been too many deltas. Chapter 4 promises that a design in which it finds no fault comes to rest: there they were woken by what is set there and back, and would give nothing another value.
func (r *runner) leaveOff() {
	if !r.asked {
		r.asked, r.rests = true, habit.Fault(r.design) == nil
	}
	if !r.rests {
		fault.Throw(api.FLoop, r.now)
	}
	r.due = r.due[:0]
}

// begin makes those that were woken due.
func (r *runner) begin() {
	r.due, r.next = r.next, r.due[:0]
	slices.Sort(r.due)
	for _, p := range r.due {
		r.woken[p] = false
	}
}

// delta runs all that are due, each once, then sets what was kept.
func (r *runner) delta() {
	for _, p := range r.due {
		r.waits[p] = true
	}
	for len(r.due) > 0 {
		k := r.choose(len(r.due))
		r.running = r.due[k]
		r.due = slices.Delete(r.due, k, k+1)
		r.waits[r.running] = false
		runAll(r.acts[r.running], r)
	}
	r.running = nobody
	r.putFrom(0)
}

// choose tells which one of n runs next.
func (r *runner) choose(n int) int {
	k := 0
	if len(r.order) > 0 {
		k = r.order[r.choices%len(r.order)] % n
	}
	r.choices++
	if k < 0 {
		k += n
	}
	return k
}

// change is that a place gets a value; at is which bit or word of it, if that hung on an index.
type change struct {
	to        place
	at, value uint64
}

// putFrom makes the changes that are kept, from one of them on.
func (r *runner) putFrom(first int) {
	for _, c := range r.kept[first:] {
		r.put(c)
	}
	r.kept = r.kept[:first]
}

// put makes a change, and wakes who reads what has changed by it.
func (r *runner) put(c change) {
	if !c.to.put(&r.store, c.at, c.value) {
		return
	}
	for _, p := range r.readers[c.to.of()] {
		if p != r.running && !r.waits[p] {
			r.wake(p)
		}
	}
}

// wake puts a process among the next ones.
func (r *runner) wake(p int) {
	if !r.woken[p] {
		r.woken[p] = true
		r.next = append(r.next, p)
	}
}
