package lut

import (
	"math/bits"
	"slices"
)

// cut is some variables, the leaves, that tell what a variable is worth.
type cut struct {
	leaves [mostLeaves]int // ascending; 0 behind the last one
	count  int
	marks  uint64 // of each leaf a bit, by which most cuts are told apart at one look
	depth  int    // of the deepest leaf
	table  uint16 // bit k is what the variable is worth where the leaves spell k, the first one the lowest bit
}

// itself is the cut of a variable that is the variable alone.
func itself(v, depth int) cut {
	return cut{[mostLeaves]int{v}, 1, 1 << (v % 64), depth, leafTable(0)}
}

// leafTable is the table of a leaf, by its place.
func leafTable(place int) uint16 {
	return [mostLeaves]uint16{0xaaaa, 0xcccc, 0xf0f0, 0xff00}[place]
}

func (c *cut) list() []int {
	return c.leaves[:c.count:c.count]
}

// joined has the leaves of two cuts, if they are not too many.
func joined(one, other *cut) (both cut, isSmall bool) {
	both = *one
	both.marks |= other.marks
	both.depth = max(one.depth, other.depth)
	if bits.OnesCount64(both.marks) > mostLeaves {
		return cut{}, false
	}
	for _, v := range other.list() {
		at, isThere := slices.BinarySearch(both.list(), v)
		switch {
		case isThere:
			continue
		case both.count == mostLeaves:
			return cut{}, false
		}
		copy(both.leaves[at+1:], both.leaves[at:both.count])
		both.leaves[at] = v
		both.count++
	}
	return both, true
}

// isWithin asks whether all leaves of a cut are among those of another one.
func (c *cut) isWithin(other *cut) bool {
	if c.marks&^other.marks != 0 {
		return false
	}
	for _, v := range c.list() {
		if !slices.Contains(other.list(), v) {
			return false
		}
	}
	return true
}

// spread gives the table of a literal whose variable has a cut, among more leaves.
func (c *cut) spread(all *cut, literal int) uint16 {
	var places [mostLeaves]int
	for i, v := range c.list() {
		places[i] = slices.Index(all.list(), v)
	}
	var table uint16
	for k := range 1 << mostLeaves {
		spelled := 0
		for i, place := range places[:c.count] {
			spelled |= k >> place & 1 << i
		}
		table |= c.table >> spelled & 1 << k
	}
	return table ^ -uint16(literal%2)
}

// weighty gives the places of the leaves on which the table hangs.
func (c *cut) weighty() []int {
	var places []int
	for i := range c.count {
		whereFalse := c.table &^ leafTable(i)
		whereTrue := (c.table & leafTable(i)) >> (1 << i)
		if whereFalse != whereTrue {
			places = append(places, i)
		}
	}
	return places
}

// bits gives those of the table for the leaves at some places, if it hangs on no other ones.
func (c *cut) bits(places []int) int {
	all := 0
	for k := range 1 << len(places) {
		spelled := 0
		for i, place := range places {
			spelled |= k >> i & 1 << place
		}
		all |= int(c.table>>spelled&1) << k
	}
	return all
}
