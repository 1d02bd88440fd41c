package word

import (
	"slices"

	"gatewright/api"
	"gatewright/fault"
)

// mostMade bounds the nodes that are made, needed or not: whoever needs so many has far too many at the end.
const mostMade = 1 << 20

// book holds nodes, each but once.
type book struct {
	nodes  []api.Node
	values []uint64       // what the numbers among them are
	known  map[entry]int  // where a node stands
	lists  map[[2]int]int // which list it is that has one more node behind another list; 0 is the empty one
}

// entry is a node, its operands told by the number of their list.
type entry struct {
	kind, width int
	num         uint64
	list        int
}

func newBook() *book {
	return &book{known: make(map[entry]int), lists: make(map[[2]int]int)}
}

// node gives the node that is so, and makes it, if there is none.
func (b *book) node(kind, width int, num uint64, args ...int) int {
	e := entry{kind, width, num, b.list(args)}
	if at, there := b.known[e]; there {
		return at
	}
	if len(b.nodes) == mostMade {
		fault.Throw(api.FBig, 0)
	}
	b.known[e] = len(b.nodes)
	b.nodes = append(b.nodes, api.Node{Kind: kind, Width: width, Num: num, Args: slices.Clone(args)})
	b.values = append(b.values, num)
	return len(b.nodes) - 1
}

// list tells the number of a list of nodes.
func (b *book) list(args []int) int {
	list := 0
	for _, a := range args {
		longer := [2]int{list, a}
		list = b.lists[longer]
		if list == 0 {
			list = len(b.lists) + 1
			b.lists[longer] = list
		}
	}
	return list
}

func (b *book) number(width int, num uint64) int {
	return b.node(api.XNum, width, num)
}

func (b *book) isNumber(at int) bool {
	return b.nodes[at].Kind == api.XNum
}

// is asks whether a node is that number.
func (b *book) is(at int, num uint64) bool {
	return b.isNumber(at) && b.nodes[at].Num == num
}

func (b *book) width(at int) int {
	return b.nodes[at].Width
}

// operation gives a node that is worth what the operation is: that node itself, or a simpler one.
func (b *book) operation(kind, width int, args ...int) int {
	if !slices.ContainsFunc(args, func(a int) bool { return !b.isNumber(a) }) {
		x := api.Node{Kind: kind, Width: width, Args: args}
		return b.number(width, worth(&x, b.nodes, b.values))
	}
	switch kind {
	case api.XExt:
		return b.fit(args[0], width)
	case api.XNot:
		return b.not(args[0])
	case api.XAll, api.XAny, api.XOdd:
		if b.width(args[0]) == 1 {
			return args[0]
		}
	case api.XShl, api.XShr:
		if b.isNumber(args[1]) {
			return b.shifted(kind, args[0], b.values[args[1]])
		}
	case api.XIf:
		return b.oneOf(args[0], args[1], args[2])
	default:
		return b.pair(kind, width, args[0], args[1])
	}
	return b.node(kind, width, 0, args...)
}

// fit cuts off, or fills up with zeros.
func (b *book) fit(at, width int) int {
	all := b.width(at)
	if width <= all {
		return b.join([]part{{at, 0, width}})
	}
	return b.join([]part{{at, 0, all}, {nothing, 0, width - all}})
}

func (b *book) not(at int) int {
	if x := &b.nodes[at]; x.Kind == api.XNot {
		return x.Args[0]
	}
	return b.node(api.XNot, b.width(at), 0, at)
}

// shifted is a shift by a number that is known.
func (b *book) shifted(kind, at int, by uint64) int {
	width := b.width(at)
	if by >= uint64(width) {
		return b.number(width, 0)
	}
	n := int(by)
	zeros := part{nothing, 0, n}
	if n == 0 {
		return at
	}
	if kind == api.XShl {
		return b.join([]part{zeros, {at, 0, width - n}})
	}
	return b.join([]part{{at, n, width - n}, zeros})
}

// oneOf is one of two nodes, neither of which asks the same again.
func (b *book) oneOf(asked, then, other int) int {
	if b.isNumber(asked) {
		if b.is(asked, 0) {
			return other
		}
		return then
	}
	if x := &b.nodes[asked]; x.Kind == api.XNot {
		return b.oneOf(x.Args[0], other, then)
	}
	if x := &b.nodes[then]; x.Kind == api.XIf && x.Args[0] == asked {
		then = x.Args[1]
	}
	if x := &b.nodes[other]; x.Kind == api.XIf && x.Args[0] == asked {
		other = x.Args[2]
	}
	switch {
	case then == other:
		return then
	case b.width(then) == 1 && b.is(then, 1) && b.is(other, 0):
		return asked
	case b.width(then) == 1 && b.is(then, 0) && b.is(other, 1):
		return b.not(asked)
	}
	return b.node(api.XIf, b.width(then), 0, asked, then, other)
}
