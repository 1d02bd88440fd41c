package sweep

import (
	"cmp"
	"slices"
)

const (
	mostLeaves = 3
	mostCuts   = 8 // of a gate
)

// cut is some variables, the leaves, that tell what a variable is worth. Bit k of the table is it where the leaves spell k, the first one the lowest bit.
type cut struct {
	leaves [mostLeaves]int // ascending; 0 behind the last one
	count  int
	table  uint8
}

// leafTables are those of the leaves themselves.
func leafTables() [mostLeaves]uint8 { return [...]uint8{0xaa, 0xcc, 0xf0} }

// cuts has some of the cuts of variables.
type cuts map[int][]cut

// of gives those of a variable, itself ahead of the others.
func (c cuts) of(v int) []cut {
	itself := cut{[mostLeaves]int{v}, 1, leafTables()[0]}
	return append([]cut{itself}, c[v]...)
}

// note finds cuts of a gate: those of its literals, taken together. Of too many those with few leaves, and these near to it, are kept.
func (c cuts) note(v int, and [2]int) {
	var found []cut
	for _, one := range c.of(and[0] / 2) {
		for _, other := range c.of(and[1] / 2) {
			both, isSmall := joined(&one, &other)
			if !isSmall {
				continue
			}
			both.table = (one.spread(&both) ^ -uint8(and[0]%2)) & (other.spread(&both) ^ -uint8(and[1]%2))
			if !slices.Contains(found, both) {
				found = append(found, both)
			}
		}
	}
	slices.SortStableFunc(found, func(a, b cut) int {
		return cmp.Or(cmp.Compare(a.count, b.count), slices.Compare(b.leaves[:], a.leaves[:]))
	})
	c[v] = found[:min(mostCuts, len(found))]
}

// joined has the leaves of two cuts, if they are not too many.
func joined(one, other *cut) (both cut, isSmall bool) {
	both = cut{leaves: one.leaves, count: one.count}
	for _, v := range other.leaves[:other.count] {
		at, isThere := slices.BinarySearch(both.leaves[:both.count], v)
		switch {
		case isThere:
			continue
		case both.count == mostLeaves:
			return cut{}, false
		}
		copy(both.leaves[at+1:], both.leaves[at:both.count])
		both.leaves[at] = v
		both.count++
	}
	return both, true
}

// spread gives the table of a cut among more leaves.
func (c *cut) spread(all *cut) uint8 {
	var places [mostLeaves]int
	for i, v := range c.leaves[:c.count] {
		places[i] = slices.Index(all.leaves[:all.count], v)
	}
	var table uint8
	for k := range 1 << mostLeaves {
		spelled := 0
		for i, place := range places[:c.count] {
			spelled |= k >> place & 1 << i
		}
		table |= c.table >> spelled & 1 << k
	}
	return table
}

// sum tells a cut's table as an exclusive or of leaves, if it is one.
func (c *cut) sum() (x sum, isSum bool) {
	tables := leafTables()
	for chosen := range 1 << c.count {
		var terms []int
		var table uint8
		for i, v := range c.leaves[:c.count] {
			if chosen>>i&1 == 1 {
				terms = append(terms, v)
				table ^= tables[i]
			}
		}
		switch c.table {
		case table:
			return sum{terms, 0}, true
		case ^table:
			return sum{terms, 1}, true
		}
	}
	return sum{}, false
}
