package sim

// act of a process, ready to run.
type act interface {
	run(r *runner)
}

func runAll(acts []act, r *runner) {
	for _, a := range acts {
		a.run(r)
	}
}

// branch runs one of two lists of acts.
type branch struct {
	asked       expression
	then, other []act
}

func (b *branch) run(r *runner) {
	if b.asked.worth(&r.store) != 0 {
		runAll(b.then, r)
	} else {
		runAll(b.other, r)
	}
}

// target is a place, and which bits of the value it takes.
type target struct {
	place
	lo   int
	mask uint64
}

// assignment sets its targets, at once or later.
type assignment struct {
	value expression
	to    []target
	later bool
}

// run finds all places ahead of setting the first of them: an index may read what is set.
func (a *assignment) run(r *runner) {
	value := a.value.worth(&r.store)
	first := len(r.kept)
	for i := range a.to {
		t := &a.to[i]
		r.kept = append(r.kept, change{t.place, t.find(&r.store), value >> t.lo & t.mask})
	}
	if !a.later {
		r.putFrom(first)
	}
}
