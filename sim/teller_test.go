package sim

import (
	"gatewright/api"
	"gatewright/race"
)

// teller runs a design bit by bit, as the chapter says it, however long that takes.
type teller struct {
	d       api.Design
	nets    [][]bool   // bits, the lowest first
	words   [][][]bool // of memories
	order   []int
	choices int
	now     map[int]bool // still to run in this delta
	next    map[int]bool
	runs    int // the process that runs, or -1
	kept    []func()
	ran     int // how many processes have run, for the tests to tell
	left    int // how often a design that always comes to rest was left off
}

func bitsOf(value uint64, width int) []bool {
	all := make([]bool, width)
	for i := range all {
		all[i] = value>>i&1 == 1
	}
	return all
}

func valueOf(all []bool) uint64 {
	value := uint64(0)
	for i, b := range all {
		if b {
			value += 1 << i
		}
	}
	return value
}

func tellerOf(d api.Design, order []int) *teller {
	r := &teller{d: d, order: order, runs: -1, now: map[int]bool{}, next: map[int]bool{}}
	for _, n := range d.Nets {
		r.nets = append(r.nets, bitsOf(n.Init, n.Width))
		var words [][]bool
		for range n.Words {
			words = append(words, bitsOf(0, n.Width))
		}
		r.words = append(r.words, words)
	}
	for i, p := range d.Procs {
		if !p.Clocked {
			r.next[i] = true
		}
	}
	return r
}

// tell gives the rows, or -1 and nil; else the cycle at which the design does not come to rest.
func (r *teller) tell(trace [][]uint64) ([][]uint64, int) {
	var all [][]uint64
	for cycle, row := range trace {
		for i, n := range r.d.Inputs {
			value := uint64(0)
			if i < len(row) {
				value = row[i]
			}
			r.store(n, 0, bitsOf(value, r.d.Nets[n].Width))
		}
		if !r.settle() {
			return nil, cycle
		}
		var told []uint64
		for _, n := range r.d.Outputs {
			told = append(told, valueOf(r.nets[n]))
		}
		all = append(all, told)
		for i, p := range r.d.Procs {
			if p.Clocked {
				r.now[i] = true
			}
		}
		r.delta()
		if !r.settle() {
			return nil, cycle
		}
	}
	return all, -1
}

func (r *teller) settle() bool {
	for deltas := 1; len(r.next) > 0; deltas++ {
		if deltas > len(r.d.Procs)+1 {
			r.next = map[int]bool{}
			r.left++
			return race.Check(r.d) == nil // chapter 4: then it never is FLoop
		}
		r.now, r.next = r.next, map[int]bool{}
		r.delta()
	}
	return true
}

func (r *teller) delta() {
	for len(r.now) > 0 {
		n, k := len(r.now), 0
		if len(r.order) > 0 {
			k = r.order[r.choices%len(r.order)] % n
		}
		if k < 0 {
			k += n
		}
		r.choices++
		for p := range r.d.Procs {
			if r.now[p] {
				if k == 0 {
					r.runs = p
					break
				}
				k--
			}
		}
		delete(r.now, r.runs)
		r.ran++
		r.acts(r.d.Procs[r.runs].Acts)
	}
	r.runs = -1
	for _, set := range r.kept {
		set()
	}
	r.kept = nil
}

func (r *teller) acts(acts []api.Act) {
	for _, a := range acts {
		if a.Kind == api.AIf {
			if r.worth(a.If)[0] {
				r.acts(a.Then)
			} else {
				r.acts(a.Else)
			}
			continue
		}
		value := r.worth(a.Value)
		var sets []func()
		hi := len(value)
		for _, d := range a.To {
			sets = append(sets, r.setting(d, value[hi-d.Width:hi]))
			hi -= d.Width
		}
		if a.Later {
			r.kept = append(r.kept, sets...)
			continue
		}
		for _, set := range sets {
			set()
		}
	}
}

// setting finds where a target is, and gives what sets it.
func (r *teller) setting(d api.Dest, value []bool) func() {
	if !d.Dyn {
		return func() { r.store(d.Net, d.Lo, value) }
	}
	at := valueOf(r.worth(d.Index))
	if words := r.words[d.Net]; len(words) > 0 {
		return func() {
			if at < uint64(len(words)) && valueOf(words[at]) != valueOf(value) {
				words[at] = value
				r.changed(d.Net)
			}
		}
	}
	return func() {
		if at < uint64(len(r.nets[d.Net])) {
			r.store(d.Net, int(at), value)
		}
	}
}

func (r *teller) store(net, lo int, value []bool) {
	was := valueOf(r.nets[net])
	copy(r.nets[net][lo:], value)
	if valueOf(r.nets[net]) != was {
		r.changed(net)
	}
}

func (r *teller) changed(net int) {
	for i, p := range r.d.Procs {
		if !p.Clocked && i != r.runs && !r.now[i] && standsInActs(p.Acts, net) {
			r.next[i] = true
		}
	}
}

func standsInActs(acts []api.Act, net int) bool {
	for _, a := range acts {
		for _, d := range a.To {
			if d.Dyn && stands(d.Index, net) {
				return true
			}
		}
		if stands(a.Value, net) || stands(a.If, net) || standsInActs(a.Then, net) || standsInActs(a.Else, net) {
			return true
		}
	}
	return false
}

func stands(x api.Exp, net int) bool {
	if (x.Kind == api.XNet || x.Kind == api.XBit || x.Kind == api.XWord) && x.Net == net {
		return true
	}
	for _, a := range x.Args {
		if stands(a, net) {
			return true
		}
	}
	return false
}

// worth works an expression out, bit by bit.
func (r *teller) worth(x api.Exp) []bool {
	var args [][]bool
	for _, a := range x.Args {
		args = append(args, r.worth(a))
	}
	out := make([]bool, x.Width)
	switch x.Kind {
	case api.XNum:
		return bitsOf(x.Num, x.Width)
	case api.XNet:
		copy(out, r.nets[x.Net])
	case api.XWord:
		if at := valueOf(args[0]); at < uint64(len(r.words[x.Net])) {
			copy(out, r.words[x.Net][at])
		}
	case api.XBit:
		if at := valueOf(args[0]); at < uint64(len(r.nets[x.Net])) {
			out[0] = r.nets[x.Net][at]
		}
	case api.XSlice:
		copy(out, args[0][x.Num:])
	case api.XExt:
		copy(out, args[0])
	case api.XCat:
		hi := x.Width
		for _, a := range args {
			hi -= len(a)
			copy(out[hi:], a)
		}
	case api.XIf:
		if args[0][0] {
			return args[1]
		}
		return args[2]
	case api.XAll, api.XAny, api.XOdd:
		ones := 0
		for _, b := range args[0] {
			if b {
				ones++
			}
		}
		out[0] = x.Kind == api.XAll && ones == len(args[0]) || x.Kind == api.XAny && ones > 0 || x.Kind == api.XOdd && ones%2 == 1
	case api.XEq, api.XLt:
		out[0] = x.Kind == api.XEq
		for i := range args[0] {
			if args[0][i] != args[1][i] {
				out[0] = x.Kind == api.XLt && args[1][i]
			}
		}
	default:
		eachBit(x.Kind, args, out)
	}
	return out
}

// eachBit is an operation whose bits come one by one, from the lowest on.
func eachBit(kind int, args [][]bool, out []bool) {
	carry := 0
	if kind == api.XSub {
		carry = 1
	}
	at := func(k, i int) bool { return i >= 0 && i < len(args[k]) && args[k][i] }
	for i := range out {
		switch kind {
		case api.XNot:
			out[i] = !at(0, i)
		case api.XAnd:
			out[i] = at(0, i) && at(1, i)
		case api.XOr:
			out[i] = at(0, i) || at(1, i)
		case api.XXor:
			out[i] = at(0, i) != at(1, i)
		case api.XShl:
			out[i] = at(0, i-int(valueOf(args[1])))
		case api.XShr:
			out[i] = at(0, i+int(valueOf(args[1])))
		case api.XAdd, api.XSub:
			if at(0, i) {
				carry++
			}
			if at(1, i) == (kind == api.XAdd) {
				carry++
			}
			out[i] = carry%2 == 1
			carry /= 2
		case api.XMul:
			for k := range i + 1 {
				if at(0, k) && at(1, i-k) {
					carry++
				}
			}
			out[i] = carry%2 == 1
			carry /= 2
		}
	}
}
