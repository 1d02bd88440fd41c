package race

import (
	"slices"

	"gatewright/api"
)

// bit is one bit of a net, or a whole memory.
type bit struct{ net, number int }

// telling is what a process does, found by going every way that its conditions leave.
type telling struct {
	clocked     bool
	once, later map[bit]bool
	ahead       map[bit]bool
	unsure      map[bit]bool // may be set, and is not at the end of some way
}

type teller struct {
	d *api.Design
	*telling
}

func tellingOf(d *api.Design, p api.Proc) *telling {
	t := teller{d, &telling{p.Clocked, map[bit]bool{}, map[bit]bool{}, map[bit]bool{}, map[bit]bool{}}}
	var ends []map[bit]bool
	t.way(p.Acts, map[bit]bool{}, func(set map[bit]bool) { ends = append(ends, set) })
	for b := range t.once {
		for _, set := range ends {
			if !set[b] {
				t.unsure[b] = true
			}
		}
	}
	return t.telling
}

// way goes all ways through a list of acts, each with what has been set on it.
func (t teller) way(acts []api.Act, set map[bit]bool, then func(map[bit]bool)) {
	if len(acts) == 0 {
		then(set)
		return
	}
	a := acts[0]
	if a.Kind == api.AIf {
		t.reads(a.If, set)
		rest := func(set map[bit]bool) { t.way(acts[1:], set, then) }
		t.way(a.Then, set, rest)
		t.way(a.Else, set, rest)
		return
	}
	t.reads(a.Value, set)
	behind := map[bit]bool{}
	for b := range set {
		behind[b] = true
	}
	for _, to := range a.To {
		if to.Dyn {
			t.reads(to.Index, set)
		}
		lo, width := to.Lo, to.Width
		if to.Dyn {
			lo, width = 0, t.wide(to.Net)
		}
		for i := range width {
			b := bit{to.Net, lo + i}
			if a.Later {
				t.later[b] = true
			} else {
				t.once[b] = true
				if !to.Dyn {
					behind[b] = true
				}
			}
		}
	}
	t.way(acts[1:], behind, then)
}

func (t teller) wide(net int) int {
	if t.d.Nets[net].Words > 0 {
		return 1
	}
	return t.d.Nets[net].Width
}

func (t teller) reads(x api.Exp, set map[bit]bool) {
	lo, width, net := 0, 0, x.Net
	switch x.Kind {
	case api.XNet, api.XBit, api.XWord:
		width = t.wide(x.Net)
	case api.XSlice:
		if x.Args[0].Kind == api.XNet {
			lo, width, net = int(x.Num), x.Width, x.Args[0].Net
			x.Args = nil
		}
	}
	for i := range width {
		if b := (bit{net, lo + i}); !set[b] {
			t.ahead[b] = true
		}
	}
	for _, a := range x.Args {
		t.reads(a, set)
	}
}

// told gives the code and the place that Check must tell.
func told(d *api.Design) (int, int) {
	var all []*telling
	for _, p := range d.Procs {
		all = append(all, tellingOf(d, p))
	}
	for _, code := range []int{api.FDrive, api.FRace, api.FLatch} {
		for net := range d.Nets {
			for i := range 32 {
				if wrong(d, all, bit{net, i}, code) {
					return code, net
				}
			}
		}
	}
	for p := range all {
		if p2 := reached(all, p); slices.Contains(p2, p) {
			return api.FLoop, p
		}
	}
	return 0, 0
}

func wrong(d *api.Design, all []*telling, b bit, code int) bool {
	setters := 0
	for p, t := range all {
		may := t.once[b] || t.later[b]
		if may {
			setters++
		}
		switch code {
		case api.FRace:
			if t.clocked && t.once[b] && (t.later[b] || slices.Contains(d.Outputs, b.net) || readByOther(all, p, b)) {
				return true
			}
		case api.FLatch:
			if !t.clocked && may && (t.unsure[b] || t.ahead[b]) {
				return true
			}
		}
	}
	if slices.Contains(d.Inputs, b.net) {
		setters *= 2
	}
	return code == api.FDrive && setters > 1
}

func readByOther(all []*telling, p int, b bit) bool {
	for q, t := range all {
		if q != p && t.ahead[b] {
			return true
		}
	}
	return false
}

// reached gives the processes to which one leads.
func reached(all []*telling, from int) []int {
	var met []int
	work := []int{from}
	for len(work) > 0 {
		p := work[0]
		work = work[1:]
		for q := range all {
			if q != p && !slices.Contains(met, q) && leads(all[p], all[q]) {
				met = append(met, q)
				work = append(work, q)
			}
		}
	}
	return met
}

func leads(p, q *telling) bool {
	if p.clocked || q.clocked {
		return false
	}
	for b := range q.ahead {
		if p.once[b] || p.later[b] {
			return true
		}
	}
	return false
}
