package word

import (
	mathbits "math/bits"

	"gatewright/api"
)

// lowering makes a netlist of a design in which race.Check finds nothing.
type lowering struct {
	*book
	isFrugal bool // it must have few nodes, whatever becomes of them
	design   *api.Design
	sets     []map[int]uint64 // of each process, of each net the bits that it may set
	setters  [][]int          // of each net, who may set bits of it
	begun    []bool           // of each process
	nets     [][]part         // what each net is worth when all is at rest
	next     [][]part         // what of each net is set at the clock
	memories []int            // of each net, which memory it is
	regs     []register
	netlist  api.Netlist
}

// register is bits of a net that are set at the clock.
type register struct {
	net, lo, width int
}

// lowered makes a netlist of what is needed.
func lowered(d *api.Design, isFrugal bool) api.Netlist {
	l := &lowering{book: newBook(), isFrugal: isFrugal, design: d, begun: make([]bool, len(d.Procs))}
	l.findSetters()
	for i := range d.Nets {
		l.memories = append(l.memories, len(l.netlist.Mems))
		if n := &d.Nets[i]; n.Words > 0 {
			l.netlist.Mems = append(l.netlist.Mems, api.Mem{Width: n.Width, Words: n.Words})
		}
		l.nets = append(l.nets, l.first(i))
		l.next = append(l.next, []part{{nothing, 0, d.Nets[i].Width}})
	}
	for i, n := range d.Inputs {
		width := d.Nets[n].Width
		l.netlist.Inputs = append(l.netlist.Inputs, width)
		l.nets[n] = []part{{l.node(api.NIn, width, uint64(i)), 0, width}}
	}
	for _, n := range d.Outputs {
		l.netlist.Outputs = append(l.netlist.Outputs, l.join(l.atRest(n, 0, d.Nets[n].Width)))
	}
	for p := range d.Procs {
		if d.Procs[p].Clocked {
			l.process(p)
		}
	}
	l.setRegisters()
	l.netlist.Nodes = l.book.nodes
	return needed(&l.netlist)
}

// findSetters looks at the targets of all processes.
func (l *lowering) findSetters() {
	l.setters = make([][]int, len(l.design.Nets))
	for p := range l.design.Procs {
		sets := make(map[int]uint64)
		l.targets(l.design.Procs[p].Acts, sets)
		l.sets = append(l.sets, sets)
		for net := range sets {
			l.setters[net] = append(l.setters[net], p)
		}
	}
}

func (l *lowering) targets(acts []api.Act, sets map[int]uint64) {
	for i := range acts {
		for k := range acts[i].To {
			to := &acts[i].To[k]
			if to.Dyn {
				sets[to.Net] |= mask(l.design.Nets[to.Net].Width)
			} else {
				sets[to.Net] |= mask(to.Width) << to.Lo
			}
		}
		l.targets(acts[i].Then, sets)
		l.targets(acts[i].Else, sets)
	}
}

// first tells what a net is worth ahead of all processes: its bits that are set at the clock are registers, those that no process sets stay what they are.
func (l *lowering) first(net int) []part {
	n := &l.design.Nets[net]
	var atClock, beside uint64
	for _, p := range l.setters[net] {
		if l.design.Procs[p].Clocked {
			atClock |= l.sets[p][net]
		} else {
			beside |= l.sets[p][net]
		}
	}
	bits := []part{{l.number(n.Width, n.Init&mask(n.Width)), 0, n.Width}}
	for lo, width := range runs(beside) {
		bits = with(bits, lo, []part{{nothing, 0, width}})
	}
	if n.Words > 0 {
		return bits
	}
	for lo, width := range runs(atClock) {
		reg := l.node(api.NReg, width, uint64(len(l.regs)))
		l.regs = append(l.regs, register{net, lo, width})
		bits = with(bits, lo, []part{{reg, 0, width}})
	}
	return bits
}

// runs goes through the bits of a set, as many at a time as stand side by side.
func runs(bits uint64) func(yield func(lo, width int) bool) {
	return func(yield func(lo, width int) bool) {
		for left := bits; left != 0; {
			lo := mathbits.TrailingZeros64(left)
			width := mathbits.TrailingZeros64(^(left >> lo))
			if !yield(lo, width) {
				return
			}
			left &^= mask(width) << lo
		}
	}
}

// atRest tells what some bits of a net are worth when all is at rest; who sets them is gone through first.
func (l *lowering) atRest(net, lo, width int) []part {
	for _, p := range l.setters[net] {
		isAsked := l.sets[p][net]&(mask(width)<<lo) != 0
		if isAsked && !l.begun[p] && !l.design.Procs[p].Clocked {
			l.process(p)
		}
	}
	return cut(l.nets[net], lo, width)
}

// process goes through a process, and keeps what has been set at its end.
func (l *lowering) process(p int) {
	l.begun[p] = true
	r := newRoutine(l, p)
	r.acts(l.design.Procs[p].Acts)
	r.settleAll()
	into := l.nets
	if r.clocked {
		into = l.next
	}
	for id, bits := range r.values {
		net := id % len(l.nets)
		into[net] = filled(bits, into[net])
	}
}

// setRegisters tells what the registers become. One that is not set stays what it is.
func (l *lowering) setRegisters() {
	for _, r := range l.regs {
		next := filled(l.next[r.net], l.nets[r.net])
		l.netlist.Regs = append(l.netlist.Regs, api.Reg{
			Width: r.width,
			Init:  l.design.Nets[r.net].Init >> r.lo & mask(r.width),
			Next:  l.join(cut(next, r.lo, r.width)),
		})
	}
}
