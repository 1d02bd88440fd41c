package lut

import "gatewright/api"

// finder finds cuts of variables, and how deep variables are.
type finder struct {
	cuts   lists[cut] // of each variable; a gate itself is the first one of its own
	depths []int
}

// found has looked at all variables of a graph.
func found(g *api.Graph) *finder {
	f := &finder{}
	f.note(0, cut{})
	for v := 1; v < firstGate(g); v++ {
		f.note(0, itself(v, 0))
	}
	for i, and := range g.Ands {
		cuts := f.cutsOf(and)
		depth := cuts[0].depth
		for k := range cuts {
			depth = min(depth, cuts[k].depth)
		}
		f.note(1+depth, append([]cut{itself(firstGate(g)+i, 1+depth)}, cuts...)...)
	}
	return f
}

func (f *finder) note(depth int, cuts ...cut) {
	f.depths = append(f.depths, depth)
	f.cuts.add(cuts...)
}

// cutsOf gives the cuts of a gate that no other one beats: they are at most nine, however large the graph is. Each of them comes of such cuts of its two literals' variables.
func (f *finder) cutsOf(and [2]int) []cut {
	var kept []cut
	ones, others := f.cuts.at(and[0]/2), f.cuts.at(and[1]/2)
	for i := range ones {
		for k := range others {
			both, isSmall := joined(&ones[i], &others[k])
			if !isSmall || f.isBeaten(&both, kept) {
				continue
			}
			both.table = ones[i].spread(&both, and[0]) & others[k].spread(&both, and[1])
			kept = append(f.unbeaten(kept, &both), both)
		}
	}
	return kept
}

func (f *finder) isBeaten(c *cut, kept []cut) bool {
	for i := range kept {
		if f.beats(&kept[i], c) {
			return true
		}
	}
	return false
}

// unbeaten gives those of the kept ones that a cut does not beat, in the same memory.
func (f *finder) unbeaten(kept []cut, c *cut) []cut {
	rest := kept[:0]
	for i := range kept {
		if !f.beats(c, &kept[i]) {
			rest = append(rest, kept[i])
		}
	}
	return rest
}

// beats asks whether a cut has no more leaves than another one, and lies behind it: its leaves tell what those of the other are worth. Depths do not grow on the way to the inputs, so whoever takes the other one can take this one as well.
func (f *finder) beats(one, other *cut) bool {
	if one.count > other.count {
		return false
	}
	for _, v := range other.list() {
		if !f.isTold(v, one) {
			return false
		}
	}
	return true
}

// isTold asks whether the leaves of a cut tell what a variable is worth.
func (f *finder) isTold(v int, by *cut) bool {
	cuts := f.cuts.at(v)
	for i := range cuts {
		if cuts[i].isWithin(by) {
			return true
		}
	}
	return false
}
