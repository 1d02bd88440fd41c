package word

import (
	"slices"

	"gatewright/api"
)

// needed gives a netlist without the nodes, registers and memories on which no output hangs.
func needed(all *api.Netlist) api.Netlist {
	s := sifter{all, make([]int, len(all.Nodes)), make([]int, len(all.Regs)), make([]int, len(all.Mems)), nil}
	for _, o := range all.Outputs {
		s.need(o)
	}
	for len(s.waiting) > 0 {
		last := len(s.waiting) - 1
		at := s.waiting[last]
		s.waiting = s.waiting[:last]
		s.look(&all.Nodes[at])
	}
	s.count()
	return s.kept()
}

// sifter finds what is needed. Of nodes, registers, memories it notes first that they are, then their new numbers; one that is not needed has 0 at first, then less than 0.
type sifter struct {
	all               *api.Netlist
	nodes, regs, mems []int
	waiting           []int // nodes that have not been looked at
}

func (s *sifter) need(node int) {
	if s.nodes[node] == 0 {
		s.nodes[node] = 1
		s.waiting = append(s.waiting, node)
	}
}

// look finds what a node hangs on.
func (s *sifter) look(x *api.Node) {
	for _, a := range x.Args {
		s.need(a)
	}
	switch {
	case x.Kind == api.NReg && s.regs[x.Num] == 0:
		s.regs[x.Num] = 1
		s.need(s.all.Regs[x.Num].Next)
	case x.Kind == api.NRead && s.mems[x.Num] == 0:
		s.mems[x.Num] = 1
		for i := range s.all.Writes {
			if w := &s.all.Writes[i]; w.Mem == int(x.Num) {
				s.need(w.When)
				s.need(w.Addr)
				s.need(w.Data)
			}
		}
	}
}

// count gives new numbers to what is needed.
func (s *sifter) count() {
	for _, list := range [][]int{s.nodes, s.regs, s.mems} {
		next := 0
		for i := range list {
			if list[i] == 0 {
				list[i] = -1
			} else {
				list[i] = next
				next++
			}
		}
	}
}

func (s *sifter) kept() api.Netlist {
	n := api.Netlist{Inputs: slices.Clone(s.all.Inputs)}
	for i := range s.all.Nodes {
		if s.nodes[i] >= 0 {
			n.Nodes = append(n.Nodes, s.renumbered(&s.all.Nodes[i]))
		}
	}
	for i, r := range s.all.Regs {
		if s.regs[i] >= 0 {
			r.Next = s.nodes[r.Next]
			n.Regs = append(n.Regs, r)
		}
	}
	for i, m := range s.all.Mems {
		if s.mems[i] >= 0 {
			n.Mems = append(n.Mems, m)
		}
	}
	for _, w := range s.all.Writes {
		if s.mems[w.Mem] >= 0 {
			n.Writes = append(n.Writes, api.Write{Mem: s.mems[w.Mem], When: s.nodes[w.When], Addr: s.nodes[w.Addr], Data: s.nodes[w.Data]})
		}
	}
	for _, o := range s.all.Outputs {
		n.Outputs = append(n.Outputs, s.nodes[o])
	}
	return n
}

func (s *sifter) renumbered(x *api.Node) api.Node {
	y := api.Node{Kind: x.Kind, Width: x.Width, Num: x.Num}
	for _, a := range x.Args {
		y.Args = append(y.Args, s.nodes[a])
	}
	switch x.Kind {
	case api.NReg:
		y.Num = uint64(s.regs[x.Num])
	case api.NRead:
		y.Num = uint64(s.mems[x.Num])
	}
	return y
}
