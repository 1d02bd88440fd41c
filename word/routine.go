package word

import "gatewright/api"

// routine goes through a process, whatever its conditions are worth.
type routine struct {
	*lowering
	which   int // the number of the process
	clocked bool
	values  map[int][]part // what has been set: of each net at once, and, behind all nets, of each net later
	branch
	memo
}

func newRoutine(l *lowering, which int) *routine {
	return &routine{
		lowering: l,
		which:    which,
		clocked:  l.design.Procs[which].Clocked,
		values:   make(map[int][]part),
		branch:   newBranch(l.number(1, 1)),
		memo:     newMemo(),
	}
}

func (r *routine) acts(list []api.Act) {
	for i := range list {
		if list[i].Kind == api.AIf {
			r.branches(&list[i])
		} else {
			r.set(&list[i])
		}
	}
}

// set finds all places ahead of setting the first of them: an index may read what is set.
func (r *routine) set(a *api.Act) {
	value := r.parts(r.exp(&a.Value))
	indices := make([]int, len(a.To))
	for i := range a.To {
		if a.To[i].Dyn {
			indices[i] = r.exp(&a.To[i].Index)
		}
	}
	hi := a.Value.Width
	for i := range a.To {
		to := &a.To[i]
		hi -= to.Width
		bits := cut(value, hi, to.Width)
		id := to.Net
		if a.Later {
			id += len(r.nets)
		}
		switch {
		case !to.Dyn:
			r.put(id, to.Lo, bits)
		case r.design.Nets[to.Net].Words > 0:
			w := api.Write{Mem: r.memories[to.Net], When: r.path, Addr: indices[i], Data: r.join(bits)}
			r.netlist.Writes = append(r.netlist.Writes, w)
		default:
			r.putBit(id, indices[i], r.join(bits))
		}
	}
}

// putBit sets the bit that an index tells. If there is none such, there is no one in the word that stands for it.
func (r *routine) putBit(id, index, bit int) {
	width := r.widthOfNet(id)
	old := r.join(r.held(id, r.now(id, 0, width), 0))
	place := r.operation(api.XShl, width, r.number(width, 1), index)
	on := r.operation(api.XOr, width, old, place)
	off := r.operation(api.XAnd, width, old, r.operation(api.XNot, width, place))
	r.put(id, 0, r.parts(r.operation(api.XIf, width, bit, on, off)))
}

func (r *routine) widthOfNet(id int) int {
	return r.design.Nets[id%len(r.nets)].Width
}

// valueOf tells what of a net has been set, but for what waits to be.
func (r *routine) valueOf(id int) []part {
	if bits, there := r.values[id]; there {
		return bits
	}
	return []part{{nothing, 0, r.widthOfNet(id)}}
}

// held fills bits of a net up where they have not been set. Beside the clock, bits that the process sets are worth nothing ahead of that: nobody reads them there.
func (r *routine) held(id int, bits []part, lo int) []part {
	if !r.clocked {
		return bits
	}
	return filled(bits, cut(r.nets[id%len(r.nets)], lo, widthOf(bits)))
}

// read tells what some bits of a net are worth at the place that is gone through.
func (r *routine) read(net, lo, width int) []part {
	if r.sets[r.which][net] == 0 {
		return r.atRest(net, lo, width)
	}
	r.note(net)
	var all []part
	for _, p := range r.now(net, lo, width) {
		if p.node == nothing {
			all = pushAll(all, r.atRest(net, lo, p.width))
		} else {
			all = push(all, p)
		}
		lo += p.width
	}
	return all
}

// exp gives the node of an expression.
func (r *routine) exp(x *api.Exp) int {
	switch x.Kind {
	case api.XNum:
		return r.number(x.Width, x.Num)
	case api.XNet:
		return r.join(r.read(x.Net, 0, x.Width))
	case api.XSlice:
		if of := &x.Args[0]; of.Kind == api.XNet {
			return r.join(r.read(of.Net, int(x.Num), x.Width))
		}
	}
	args := r.operands(x.Args)
	switch x.Kind {
	case api.XWord:
		return r.node(api.NRead, x.Width, uint64(r.memories[x.Net]), args[0])
	case api.XBit:
		width := r.design.Nets[x.Net].Width
		all := r.join(r.read(x.Net, 0, width))
		return r.fit(r.operation(api.XShr, width, all, args[0]), 1)
	case api.XSlice:
		return r.join([]part{{args[0], int(x.Num), x.Width}})
	case api.XCat:
		var all []part
		for i := len(args) - 1; i >= 0; i-- {
			all = append(all, part{args[i], 0, r.width(args[i])})
		}
		return r.join(all)
	}
	return r.operation(x.Kind, x.Width, args...)
}
