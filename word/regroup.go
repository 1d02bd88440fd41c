package word

import "gatewright/api"

// place is a bit of a net.
type place struct {
	net, bit int
}

// regrouped gives a design that does the same, in which bits stand otherwise that nobody reads as words (or, if it may be, somebody does): those that one act sets at the clock, and no other act, are a new net, which that act sets as a whole. So they come of one word, under one condition, wherever they stood.
func regrouped(d *api.Design, evenWords bool) api.Design {
	g := &regrouping{
		old:       d,
		evenWords: evenWords,
		isFree:    make([]bool, len(d.Nets)),
		isSet:     make(map[place]int),
		seen:      make(map[where]int),
		homes:     make(map[place]place),
		news:      make(map[*api.Act]int),
		reads:     make(map[int][]api.Exp),
		lists:     make(map[where][]api.Exp),
	}
	g.nets = append(g.nets, d.Nets...)
	for i := range g.isFree {
		g.isFree[i] = true
	}
	for _, n := range d.Outputs {
		g.isFree[n] = false
	}
	for p := range d.Procs {
		g.look(d.Procs[p].Acts, d.Procs[p].Clocked)
	}
	for p := range d.Procs {
		if d.Procs[p].Clocked {
			g.layNets(d.Procs[p].Acts)
		}
	}
	e := api.Design{Nets: g.nets, Inputs: d.Inputs, Outputs: d.Outputs}
	for _, p := range d.Procs {
		e.Procs = append(e.Procs, api.Proc{Clocked: p.Clocked, Acts: g.acts(p.Acts)})
	}
	return e
}

// regrouping finds how nets are read and set, and where their bits are to stand.
type regrouping struct {
	old       *api.Design
	evenWords bool
	isFree    []bool            // of each net, whether its bits may stand elsewhere
	isSet     map[place]int     // how many acts set a bit
	seen      map[where]int     // which operands have been looked at: 1 for their bits, 2 as words, 3 both
	nets      []api.Net         // the old ones, then the new ones
	homes     map[place]place   // of bits that stand elsewhere, where
	news      map[*api.Act]int  // the new net that an act sets
	reads     map[int][]api.Exp // of nets whose bits stand elsewhere, what stands for them
	lists     map[where][]api.Exp
}

// look finds how acts read and set nets. Bits that are set beside the clock stay where they are.
func (g *regrouping) look(acts []api.Act, clocked bool) {
	for i := range acts {
		a := &acts[i]
		if a.Kind == api.AIf {
			g.lookAt(&a.If, true)
			g.look(a.Then, clocked)
			g.look(a.Else, clocked)
			continue
		}
		g.lookAt(&a.Value, false)
		for k := range a.To {
			to := &a.To[k]
			if to.Dyn {
				g.lookAt(&to.Index, true)
			}
			if to.Dyn || !clocked {
				g.isFree[to.Net] = false
			}
			for b := range to.Width {
				g.isSet[place{to.Net, to.Lo + b}]++
			}
		}
	}
}

// lookAt looks at an expression that is read as a word, or of which bits go anywhere.
func (g *regrouping) lookAt(x *api.Exp, asWord bool) {
	switch x.Kind {
	case api.XNet:
		if asWord && !g.evenWords {
			g.isFree[x.Net] = false
		}
		return
	case api.XBit:
		g.isFree[x.Net] = false
	}
	if len(x.Args) == 0 {
		return
	}
	how := 1
	if asWord || x.Kind != api.XSlice && x.Kind != api.XExt && x.Kind != api.XCat {
		how = 2
	}
	key := where{&x.Args[0], len(x.Args)}
	if g.seen[key]&how != 0 {
		return
	}
	g.seen[key] |= how
	for i := range x.Args {
		g.lookAt(&x.Args[i], how == 2)
	}
}

// layNets makes the new nets of acts.
func (g *regrouping) layNets(acts []api.Act) {
	for i := range acts {
		a := &acts[i]
		g.layNets(a.Then)
		g.layNets(a.Else)
		if a.Kind != api.ASet || !a.Later {
			continue
		}
		n := api.Net{Width: a.Value.Width}
		at := n.Width
		for k := range a.To {
			to := &a.To[k]
			at -= to.Width
			for b := range to.Width {
				from := place{to.Net, to.Lo + b}
				if !g.isFree[to.Net] || g.isSet[from] != 1 {
					continue
				}
				g.homes[from] = place{len(g.nets), at + b}
				g.news[a] = len(g.nets)
				n.Init |= g.old.Nets[to.Net].Init >> from.bit & 1 << (at + b)
			}
		}
		if g.news[a] > 0 {
			g.nets = append(g.nets, n)
		}
	}
}

// acts gives acts that set the new nets.
func (g *regrouping) acts(acts []api.Act) []api.Act {
	var all []api.Act
	for i := range acts {
		a := &acts[i]
		b := *a
		if a.Kind == api.AIf {
			b.If, b.Then, b.Else = g.exp(&a.If), g.acts(a.Then), g.acts(a.Else)
			all = append(all, b)
			continue
		}
		b.Value = g.exp(&a.Value)
		b.To = nil
		for k := range a.To {
			to := a.To[k]
			if to.Dyn {
				to.Index = g.exp(&to.Index)
			}
			b.To = append(b.To, to)
		}
		if net := g.news[a]; net > 0 {
			all = append(all, g.parted(&b, net)...)
		} else {
			all = append(all, b)
		}
	}
	return all
}

// parted gives acts that set a new net, and one by one what does not stand in it.
func (g *regrouping) parted(a *api.Act, net int) []api.Act {
	value := []api.Exp{a.Value}
	width := a.Value.Width
	all := []api.Act{{Kind: api.ASet, Later: true, To: []api.Dest{{Net: net, Width: width}}, Value: a.Value}}
	set := func(to api.Dest, at int) {
		part := api.Exp{Kind: api.XSlice, Width: to.Width, Num: uint64(at), Args: value}
		all = append(all, api.Act{Kind: api.ASet, Later: true, To: []api.Dest{to}, Value: part})
	}
	for _, to := range a.To {
		width -= to.Width
		if to.Dyn {
			set(to, width)
			continue
		}
		stays := uint64(0)
		for b := range to.Width {
			if _, moves := g.homes[place{to.Net, to.Lo + b}]; !moves {
				stays |= 1 << b
			}
		}
		for lo, w := range runs(stays) {
			set(api.Dest{Net: to.Net, Lo: to.Lo + lo, Width: w}, width+lo)
		}
	}
	return all
}

// exp gives an expression that reads bits where they stand.
func (g *regrouping) exp(x *api.Exp) api.Exp {
	if x.Kind == api.XNet {
		if bits := g.bitsOf(x.Net); bits != nil {
			return api.Exp{Kind: api.XCat, Width: x.Width, Args: bits}
		}
		return *x
	}
	y := *x
	if len(x.Args) == 0 {
		return y
	}
	key := where{&x.Args[0], len(x.Args)}
	if g.lists[key] == nil {
		list := make([]api.Exp, len(x.Args))
		for i := range x.Args {
			list[i] = g.exp(&x.Args[i])
		}
		g.lists[key] = list
	}
	y.Args = g.lists[key]
	return y
}

// bitsOf tells where the bits of a net stand, the highest ones first; nil, if all stand in it.
func (g *regrouping) bitsOf(net int) []api.Exp {
	list, there := g.reads[net]
	if there {
		return list
	}
	moved := false
	for bit := g.old.Nets[net].Width - 1; bit >= 0; bit-- {
		at, moves := g.homes[place{net, bit}]
		if !moves {
			at = place{net, bit}
		}
		moved = moved || moves
		whole := api.Exp{Kind: api.XNet, Width: g.nets[at.net].Width, Net: at.net}
		list = append(list, api.Exp{Kind: api.XSlice, Width: 1, Num: uint64(at.bit), Args: []api.Exp{whole}})
	}
	if !moved {
		list = nil
	}
	g.reads[net] = list
	return list
}
