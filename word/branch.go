package word

import (
	"slices"

	"gatewright/api"
)

// change is what a branch has done to a net.
type change struct {
	was, is []part
	bare    uint64 // bits that were set, and are right only if the branch runs
	guarded uint64 // bits that were set, and are what they were, if it does not run
}

func (c *change) bits() uint64 {
	return c.bare | c.guarded
}

// outcome is what a branch has done; path is the node that tells whether it runs.
type outcome struct {
	path    int
	changes map[int]*change
}

// put sets bits of a net.
func (r *routine) put(id, lo int, bits []part, isBare bool) {
	some := mask(widthOf(bits)) << lo
	r.replace(id, with(r.valueOf(id), lo, bits), some, isBare)
}

// replace gives a net a value, of which some bits are other ones than before.
func (r *routine) replace(id int, value []part, some uint64, isBare bool) {
	c := r.changes[id]
	if c == nil {
		c = &change{was: r.values[id]}
		r.changes[id] = c
	}
	if isBare {
		c.bare |= some
		c.guarded &^= some
	} else {
		c.guarded |= some &^ c.bare
	}
	r.values[id] = value
	r.forget(id)
}

// branches goes through both branches of an act, each from the same beginning.
func (r *routine) branches(a *api.Act) {
	asked := r.exp(&a.If)
	switch {
	case r.is(asked, 1):
		r.acts(a.Then)
	case r.is(asked, 0):
		r.acts(a.Else)
	default:
		then := r.branch(a.Then, asked)
		other := r.branch(a.Else, r.operation(api.XNot, 1, asked))
		r.merge(asked, then, other)
	}
}

// branch goes through acts that run only if a condition holds, and puts everything back.
func (r *routine) branch(acts []api.Act, asked int) outcome {
	if len(acts) == 0 {
		return outcome{}
	}
	path, changes := r.path, r.changes
	r.path, r.changes = r.operation(api.XAnd, 1, path, asked), make(map[int]*change)
	r.acts(acts)
	done := outcome{r.path, r.changes}
	r.path, r.changes = path, changes
	for id, c := range done.changes {
		c.is = r.values[id]
		if c.was == nil {
			delete(r.values, id)
		} else {
			r.values[id] = c.was
		}
		r.forget(id)
	}
	return done
}

// merge makes of what both branches have done what is done by the act. Bits that one branch alone has changed are chosen by its path, once: whatever acts stand around it, that choice need not be made again. So ifs within ifs cost no more than ifs behind each other. Bits that are unset, if the branch does not run, stay so: nobody reads them ahead of their being set on each way.
func (r *routine) merge(asked int, then, other outcome) {
	var both, bothGuarded, thenAlone, otherAlone []choice
	for _, id := range r.unsettled(then, other) {
		t, o := then.changes[id], other.changes[id]
		if t == nil {
			t = &change{}
		}
		if o == nil {
			o = &change{}
		}
		old := r.held(id)
		unset := missing(old)
		common := t.bits() & o.bits()
		guarded := common & t.guarded & o.guarded
		both = append(both, choices(id, common&^guarded, t.is, o.is)...)
		bothGuarded = append(bothGuarded, choices(id, guarded, t.is, o.is)...)
		thenAlone = append(thenAlone, choices(id, t.bare&^common&^unset, t.is, old)...)
		otherAlone = append(otherAlone, choices(id, o.bare&^common&^unset, o.is, old)...)
		r.take(id, t.guarded&^common, t.is)
		r.take(id, o.guarded&^common, o.is)
	}
	r.choose(asked, both, true)
	r.choose(asked, bothGuarded, false)
	r.choose(then.path, thenAlone, false)
	r.choose(other.path, otherAlone, false)
}

// unsettled takes over what needs no choice, and tells the nets that are left, in order.
func (r *routine) unsettled(then, other outcome) []int {
	var ids []int
	for id, c := range then.changes {
		if other.changes[id] == nil && c.bare == 0 {
			r.replace(id, c.is, c.guarded, false)
		} else {
			ids = append(ids, id)
		}
	}
	for id, c := range other.changes {
		switch {
		case then.changes[id] != nil:
		case c.bare == 0:
			r.replace(id, c.is, c.guarded, false)
		default:
			ids = append(ids, id)
		}
	}
	slices.Sort(ids)
	return ids
}

// take takes over bits that a branch has changed.
func (r *routine) take(id int, bits uint64, from []part) {
	for lo, width := range runs(bits) {
		r.put(id, lo, cut(from, lo, width), false)
	}
}
