package habit

import "gatewright/api"

// habits are what a process sets and reads.
type habits struct {
	clocked          bool
	may, once, later bits // what it may set; at once; later
	sure             bits // what it sets on each way
	ahead            bits // what it reads ahead
}

func habitsOf(d *api.Design) []habits {
	all := make([]habits, len(d.Procs))
	for i := range d.Procs {
		p := &d.Procs[i]
		l := looker{nets: d.Nets, met: make(map[operands]int)}
		l.habits = habits{p.Clocked, bits{}, bits{}, bits{}, bits{}, bits{}}
		l.acts(p.Acts)
		all[i] = l.habits
	}
	return all
}

// looker goes through a process; sure is what has been set on each way by the place where it is.
type looker struct {
	habits
	nets  []api.Net
	met   map[operands]int // the lists that were met where no more was sure than here
	trail []operands       // these, as they were met
}

// operands are a list in a design, known by where it lies: where many expressions share one list, it is looked at once.
type operands struct {
	first *api.Exp
	count int
}

// acts goes through a list, and tells what has become sure by it.
func (l *looker) acts(list []api.Act) bits {
	gained := bits{}
	for i := range list {
		a := &list[i]
		if a.Kind == api.AIf {
			l.exp(&a.If)
			for net, some := range common(l.branch(a.Then), l.branch(a.Else)) {
				l.gain(net, some, gained)
			}
		} else {
			l.assignment(a, gained)
		}
	}
	return gained
}

// branch goes through a list that may not run: behind it no more is sure than ahead of it.
func (l *looker) branch(list []api.Act) bits {
	from := len(l.trail)
	gained := l.acts(list)
	for net, some := range gained {
		l.sure.drop(net, some)
	}
	for _, key := range l.trail[from:] {
		delete(l.met, key)
	}
	l.trail = l.trail[:from]
	return gained
}

// gain notes that bits are set on each way from here on.
func (l *looker) gain(net int, some uint64, gained bits) {
	some &^= l.sure[net]
	l.sure.add(net, some)
	gained.add(net, some)
}

// assignment looks at all that is read ahead of what is set.
func (l *looker) assignment(a *api.Act, gained bits) {
	l.exp(&a.Value)
	for i := range a.To {
		if a.To[i].Dyn {
			l.exp(&a.To[i].Index)
		}
	}
	for i := range a.To {
		to := &a.To[i]
		some := mask(to.Width) << to.Lo
		if to.Dyn {
			some = bitsOf(&l.nets[to.Net])
		}
		l.may.add(to.Net, some)
		if a.Later {
			l.later.add(to.Net, some)
			continue
		}
		l.once.add(to.Net, some)
		if !to.Dyn {
			l.gain(to.Net, some, gained)
		}
	}
}

// exp notes what an expression reads ahead.
func (l *looker) exp(x *api.Exp) {
	switch x.Kind {
	case api.XNet, api.XWord, api.XBit:
		l.read(x.Net, bitsOf(&l.nets[x.Net]))
	case api.XSlice:
		if of := &x.Args[0]; of.Kind == api.XNet {
			l.read(of.Net, mask(x.Width)<<x.Num)
			return
		}
	}
	l.list(x.Args)
}

func (l *looker) read(net int, some uint64) {
	l.ahead.add(net, some&^l.sure[net])
}

// list looks at operands, unless they were met where no more was sure.
func (l *looker) list(args []api.Exp) {
	if len(args) == 0 {
		return
	}
	key := operands{&args[0], len(args)}
	if l.met[key] > 0 {
		return
	}
	l.met[key] = 1
	l.trail = append(l.trail, key)
	for i := range args {
		l.exp(&args[i])
	}
}
