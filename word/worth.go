package word

import (
	"math/bits"

	"gatewright/api"
)

// mask has a one at each bit of a width.
func mask(width int) uint64 {
	return 1<<width - 1
}

func one(holds bool) uint64 {
	if holds {
		return 1
	}
	return 0
}

// worth tells what an operation is worth, where the nodes ahead of it are worth so much.
func worth(x *api.Node, nodes []api.Node, values []uint64) uint64 {
	if x.Kind == api.XNum {
		return x.Num
	}
	if x.Kind == api.XCat {
		return joined(x, nodes, values)
	}
	first := values[x.Args[0]]
	switch x.Kind {
	case api.XSlice:
		return first >> x.Num & mask(x.Width)
	case api.XExt:
		return first & mask(x.Width)
	case api.XNot:
		return ^first & mask(x.Width)
	case api.XAll:
		return one(first == mask(nodes[x.Args[0]].Width))
	case api.XAny:
		return one(first != 0)
	case api.XOdd:
		return uint64(bits.OnesCount64(first) & 1)
	case api.XIf:
		if first != 0 {
			return values[x.Args[1]]
		}
		return values[x.Args[2]]
	}
	return ofBoth(x.Kind, first, values[x.Args[1]]) & mask(x.Width)
}

// joined is words side by side, the highest bits first.
func joined(x *api.Node, nodes []api.Node, values []uint64) uint64 {
	all := uint64(0)
	for _, a := range x.Args {
		all = all<<nodes[a].Width | values[a]
	}
	return all
}

// ofBoth is an operation with two operands; bits above its width may be anything.
func ofBoth(kind int, left, right uint64) uint64 {
	switch kind {
	case api.XAnd:
		return left & right
	case api.XOr:
		return left | right
	case api.XXor:
		return left ^ right
	case api.XAdd:
		return left + right
	case api.XSub:
		return left - right
	case api.XMul:
		return left * right
	case api.XShl:
		return left << right
	case api.XShr:
		return left >> right
	case api.XEq:
		return one(left == right)
	}
	return one(left < right)
}
