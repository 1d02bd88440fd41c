package sim

import "gatewright/api"

// store is what the nets, and the words of memories, are worth. No net has a bit above its width.
type store struct {
	nets  []uint64
	words [][]uint64
}

func storeOf(nets []api.Net) store {
	s := store{make([]uint64, len(nets)), make([][]uint64, len(nets))}
	for i := range nets {
		s.nets[i] = nets[i].Init & mask(nets[i].Width)
		s.words[i] = make([]uint64, nets[i].Words)
	}
	return s
}

// mask has a one at each bit of a width.
func mask(width int) uint64 {
	return 1<<width - 1
}

// place is what a target sets.
type place interface {
	of() int                             // the net
	find(s *store) uint64                // which bit or word of it, just now
	put(s *store, at, value uint64) bool // whether anything has changed by that
}

// span is bits of a net that are known ahead.
type span struct {
	net, lo int
	mask    uint64
}

func (b span) of() int { return b.net }

func (b span) find(*store) uint64 { return 0 }

func (b span) put(s *store, _, value uint64) bool {
	was := s.nets[b.net]
	s.nets[b.net] = was&^(b.mask<<b.lo) | value<<b.lo
	return s.nets[b.net] != was
}

// someBit is the bit of a net that an index tells.
type someBit struct {
	net, width int
	index      expression
}

func (b someBit) of() int { return b.net }

func (b someBit) find(s *store) uint64 { return b.index.worth(s) }

func (b someBit) put(s *store, at, value uint64) bool {
	return at < uint64(b.width) && span{b.net, int(at), 1}.put(s, 0, value)
}

// someWord is the word of a memory that an index tells.
type someWord struct {
	memory int
	index  expression
}

func (w someWord) of() int { return w.memory }

func (w someWord) find(s *store) uint64 { return w.index.worth(s) }

func (w someWord) put(s *store, at, value uint64) bool {
	words := s.words[w.memory]
	if at >= uint64(len(words)) || words[at] == value {
		return false
	}
	words[at] = value
	return true
}
