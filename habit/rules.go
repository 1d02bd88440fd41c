// Package habit: what the processes of a design set and read, and the first rule of doc/04-race.md that this breaks. It stands beside the layers: layer 4 tells the fault, and layer 3 asks whether there is one.
package habit

import (
	"maps"
	"slices"

	"gatewright/api"
	"gatewright/fault"
)

// Fault tells the first reason why an order of events could show, or a run not come to rest.
func Fault(d *api.Design) (err error) {
	defer func() {
		if thrown := recover(); thrown != nil {
			err = fault.Of(thrown, api.FKind)
		}
	}()
	all := habitsOf(d)
	needOneDriver(d, all)
	needNoRace(d, all)
	needNoLatch(all)
	needNoLoop(all)
	return nil
}

// tell throws a fault at the least net of which a bit was found.
func tell(code int, found bits) {
	if len(found) > 0 {
		fault.Throw(code, slices.Min(slices.Collect(maps.Keys(found))))
	}
}

// needOneDriver looks for bits that are set by two. Whoever feeds the inputs counts as one.
func needOneDriver(d *api.Design, all []habits) {
	taken, found := bits{}, bits{}
	for _, n := range d.Inputs {
		taken.add(n, bitsOf(&d.Nets[n]))
	}
	for p := range all {
		for net, some := range all[p].may {
			found.add(net, some&taken[net])
			taken.add(net, some)
		}
	}
	tell(api.FDrive, found)
}

// needNoRace looks for bits that are set at once at the clock, where that can be seen. Each bit is set by one process alone: what a process does not set itself, another one does.
func needNoRace(d *api.Design, all []habits) {
	atClock, found := bits{}, bits{}
	for p := range all {
		if !all[p].clocked {
			continue
		}
		for net, some := range all[p].once {
			atClock.add(net, some)
			found.add(net, some&all[p].later[net])
		}
	}
	for _, n := range d.Outputs {
		found.add(n, atClock[n])
	}
	for p := range all {
		for net, some := range all[p].ahead {
			found.add(net, some&atClock[net]&^all[p].may[net])
		}
	}
	tell(api.FRace, found)
}

// needNoLatch looks for bits that keep a value from one run of a process to the next.
func needNoLatch(all []habits) {
	found := bits{}
	for p := range all {
		if all[p].clocked {
			continue
		}
		for net, some := range all[p].may {
			found.add(net, some&^all[p].sure[net]|some&all[p].ahead[net])
		}
	}
	tell(api.FLatch, found)
}

// needNoLoop looks for processes that come back to themselves.
func needNoLoop(all []habits) {
	reached := readersOf(all)
	for via := range reached {
		for from := range reached {
			if reached[from].has(via) {
				reached[from].join(reached[via])
			}
		}
	}
	for p := range reached {
		if reached[p].has(p) {
			fault.Throw(api.FLoop, p)
		}
	}
}

// readersOf tells of each process that is not at the clock those that read ahead what it may set. None is among its own: that is a latch.
func readersOf(all []habits) []group {
	readers := make([]group, len(all))
	setters := make(map[int][]int)
	for p := range all {
		readers[p] = groupOf(len(all))
		if !all[p].clocked {
			for net := range all[p].may {
				setters[net] = append(setters[net], p)
			}
		}
	}
	for q := range all {
	nets:
		for net, some := range all[q].ahead {
			for _, p := range setters[net] {
				if all[p].may[net]&some == 0 {
					continue
				}
				readers[p].put(q)
				some &^= all[p].may[net]
				if some == 0 {
					continue nets // each bit is set by one: the other ones set none of these
				}
			}
		}
	}
	return readers
}
