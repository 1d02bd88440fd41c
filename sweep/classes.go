package sweep

import "slices"

// gone is the class of a variable that is not looked at.
const gone = -1

// classes are variables that no pattern has told apart: at each one all of a class are worth the same or, if one of two is turned and the other is not, the opposite.
type classes struct {
	isTurned []bool // by variable
	class    []int  // by variable: the number of its class, which is that of its first member
	size     []int  // by class
}

// newClasses has all variables in one class. Turned are those that are true at the first pattern.
func newClasses(values []block) *classes {
	c := &classes{make([]bool, len(values)), make([]int, len(values)), make([]int, len(values))}
	for v := range values {
		c.isTurned[v] = values[v][0]&1 == 1
	}
	c.count()
	return c
}

func (c *classes) clone() *classes {
	return &classes{c.isTurned, slices.Clone(c.class), slices.Clone(c.size)}
}

func (c *classes) count() {
	clear(c.size)
	for _, class := range c.class {
		if class != gone {
			c.size[class]++
		}
	}
}

// drop leaves out a variable.
func (c *classes) drop(v int) {
	if c.class[v] != gone {
		c.size[c.class[v]]--
		c.class[v] = gone
	}
}

// isAlone asks whether there is no other variable with which one could be the same.
func (c *classes) isAlone(v int) bool {
	return c.class[v] == gone || c.size[c.class[v]] == 1
}

// piece is a class, and what its members are worth in a block.
type piece struct {
	class int
	worth block
}

// tellApart cuts classes where their members are worth something else.
func (c *classes) tellApart(values []block) {
	worth := func(v int) block {
		b := values[v]
		if c.isTurned[v] {
			for k := range b {
				b[k] = ^b[k]
			}
		}
		return b
	}
	for v := range c.class {
		if !c.isAlone(v) && worth(v) != worth(c.class[v]) {
			regroup(c, func(v int) piece { return piece{c.class[v], worth(v)} })
			return
		}
	}
}

// join cuts classes where others are cut.
func (c *classes) join(other *classes) {
	regroup(c, func(v int) [2]int { return [2]int{c.class[v], other.class[v]} })
}

// regroup makes classes of the variables that have the same key.
func regroup[Key comparable](c *classes, key func(v int) Key) {
	firsts := make(map[Key]int)
	for v := range c.class {
		if c.isAlone(v) {
			continue
		}
		k := key(v)
		first, there := firsts[k]
		if !there {
			first = v
			firsts[k] = v
		}
		c.class[v] = first
	}
	c.count()
}
