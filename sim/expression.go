package sim

import "math/bits"

// expression of a design, ready to be asked.
type expression interface {
	worth(s *store) uint64
}

func one(holds bool) uint64 {
	if holds {
		return 1
	}
	return 0
}

type number uint64

func (n number) worth(*store) uint64 { return uint64(n) }

type wholeNet int

func (n wholeNet) worth(s *store) uint64 { return s.nets[n] }

// worth is 0 beyond the net's width: there its value has no ones.
func (b someBit) worth(s *store) uint64 { return s.nets[b.net] >> b.index.worth(s) & 1 }

func (w someWord) worth(s *store) uint64 {
	words := s.words[w.memory]
	if at := w.index.worth(s); at < uint64(len(words)) {
		return words[at]
	}
	return 0
}

// cut is some bits of an expression.
type cut struct {
	of   expression
	lo   uint64
	mask uint64
}

func (c *cut) worth(s *store) uint64 { return c.of.worth(s) >> c.lo & c.mask }

// joined is expressions side by side, the highest bits first; widths are those of each.
type joined struct {
	parts  []expression
	widths []int
}

func (j *joined) worth(s *store) uint64 {
	all := uint64(0)
	for i, part := range j.parts {
		all = all<<j.widths[i] | part.worth(s)
	}
	return all
}

// single is an operation with one operand; mask is that of its operand.
type single struct {
	of   expression
	mask uint64
}

type (
	inverse struct{ single }
	allOnes struct{ single }
	anyOne  struct{ single }
	oddOnes struct{ single }
)

func (x *inverse) worth(s *store) uint64 { return ^x.of.worth(s) & x.mask }

func (x *allOnes) worth(s *store) uint64 { return one(x.of.worth(s) == x.mask) }

func (x *anyOne) worth(s *store) uint64 { return one(x.of.worth(s) != 0) }

func (x *oddOnes) worth(s *store) uint64 { return uint64(bits.OnesCount64(x.of.worth(s)) & 1) }

// pair is an operation with two operands; mask is that of the whole.
type pair struct {
	left, right expression
	mask        uint64
}

type (
	both       struct{ pair }
	either     struct{ pair }
	unlike     struct{ pair }
	sum        struct{ pair }
	difference struct{ pair }
	product    struct{ pair }
	shiftedUp  struct{ pair }
	shiftedOff struct{ pair }
	equal      struct{ pair }
	less       struct{ pair }
)

func (x *both) worth(s *store) uint64 { return x.left.worth(s) & x.right.worth(s) }

func (x *either) worth(s *store) uint64 { return x.left.worth(s) | x.right.worth(s) }

func (x *unlike) worth(s *store) uint64 { return x.left.worth(s) ^ x.right.worth(s) }

func (x *sum) worth(s *store) uint64 { return (x.left.worth(s) + x.right.worth(s)) & x.mask }

func (x *difference) worth(s *store) uint64 { return (x.left.worth(s) - x.right.worth(s)) & x.mask }

func (x *product) worth(s *store) uint64 { return x.left.worth(s) * x.right.worth(s) & x.mask }

func (x *shiftedUp) worth(s *store) uint64 { return x.left.worth(s) << x.right.worth(s) & x.mask }

func (x *shiftedOff) worth(s *store) uint64 { return x.left.worth(s) >> x.right.worth(s) }

func (x *equal) worth(s *store) uint64 { return one(x.left.worth(s) == x.right.worth(s)) }

func (x *less) worth(s *store) uint64 { return one(x.left.worth(s) < x.right.worth(s)) }

// choice is one of two expressions.
type choice struct {
	asked, then, other expression
}

func (c *choice) worth(s *store) uint64 {
	if c.asked.worth(s) != 0 {
		return c.then.worth(s)
	}
	return c.other.worth(s)
}
