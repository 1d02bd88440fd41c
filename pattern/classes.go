package pattern

import "slices"

// gone is the class of a variable that is not looked at.
const gone = -1

// Classes are variables that no pattern has told apart: at each one all of a class are worth the same or, if one of two is turned and the other is not, the opposite.
type Classes struct {
	isTurned []bool // by variable
	class    []int  // by variable: the number of its class, which is that of its first member
	size     []int  // by class
}

// NewClasses has all variables in one class. Turned are those that are true at the first pattern.
func NewClasses(values []Block) *Classes {
	c := &Classes{make([]bool, len(values)), make([]int, len(values)), make([]int, len(values))}
	for v := range values {
		c.isTurned[v] = values[v][0]&1 == 1
	}
	c.count()
	return c
}

// Clone gives the same classes, to be cut in another way.
func (c *Classes) Clone() *Classes {
	return &Classes{c.isTurned, slices.Clone(c.class), slices.Clone(c.size)}
}

func (c *Classes) count() {
	clear(c.size)
	for _, class := range c.class {
		if class != gone {
			c.size[class]++
		}
	}
}

// Drop leaves out a variable.
func (c *Classes) Drop(v int) {
	if c.class[v] != gone {
		c.size[c.class[v]]--
		c.class[v] = gone
	}
}

// IsAlone asks whether there is no other variable with which one could be the same.
func (c *Classes) IsAlone(v int) bool {
	return c.class[v] == gone || c.size[c.class[v]] == 1
}

// Of is the number of the class of a variable: of two that are not alone it is the same, if they are in one class.
func (c *Classes) Of(v int) int { return c.class[v] }

// Matching is the literal of a variable of the same class that is worth what another one is, as far as is known.
func (c *Classes) Matching(v, other int) int {
	if c.isTurned[v] != c.isTurned[other] {
		return 2*v + 1
	}
	return 2 * v
}

// piece is a class, and what its members are worth in a block.
type piece struct {
	class int
	worth Block
}

// TellApart cuts classes where their members are worth something else.
func (c *Classes) TellApart(values []Block) {
	for v, first := range c.class {
		if first == v || first == gone || c.areAlike(values, v, first) {
			continue
		}
		regroup(c, func(v int) piece {
			p := piece{c.class[v], values[v]}
			for k := range p.worth {
				p.worth[k] ^= c.turn(v)
			}
			return p
		})
		return
	}
}

// turn has all bits, if a variable is turned, else none.
func (c *Classes) turn(v int) uint64 {
	if c.isTurned[v] {
		return ^uint64(0)
	}
	return 0
}

// areAlike asks whether a block does not tell two variables of a class apart.
func (c *Classes) areAlike(values []Block, v, other int) bool {
	turn := c.turn(v) ^ c.turn(other)
	one, two := &values[v], &values[other]
	for k := range one {
		if one[k]^two[k] != turn {
			return false
		}
	}
	return true
}

// Join cuts classes where others are cut.
func (c *Classes) Join(other *Classes) {
	regroup(c, func(v int) [2]int { return [2]int{c.class[v], other.class[v]} })
}

// regroup makes classes of the variables that have the same key.
func regroup[Key comparable](c *Classes, key func(v int) Key) {
	firsts := make(map[Key]int)
	for v := range c.class {
		if c.IsAlone(v) {
			continue
		}
		k := key(v)
		first, there := firsts[k]
		if !there {
			first = v
			firsts[k] = v
		}
		c.class[v] = first
	}
	c.count()
}
