package word

import (
	"cmp"
	"slices"

	"gatewright/api"
)

// choice is that bits of a net are those of one list or of another one.
type choice struct {
	id, lo      int
	then, other []part
}

// choices cuts out of two lists the bits of a set.
func choices(id int, bits uint64, then, other []part) []choice {
	var all []choice
	for lo, width := range runs(bits) {
		all = append(all, choice{id, lo, cut(then, lo, width), cut(other, lo, width)})
	}
	return all
}

// piece is some bits of a choice, which are one part of a node, if that is taken.
type piece struct {
	choice, lo int
	part
}

// choose makes choices that hang on the same condition. Many of them may have bits of one node: then it can be cheaper to choose that node as a whole, and to cut the outcome, than to cut it first and to choose each piece.
func (r *routine) choose(asked int, all []choice, isBare bool) {
	if len(all) == 0 {
		return
	}
	all = r.splitUp(all)
	rows := rowsOf(all)
	groups := groupsOf(len(all), rows)
	apart, together := make([]int, len(all)), make([]int, len(all))
	for i := range all {
		apart[groups[i]] += r.costApart(&all[i])
	}
	for _, row := range rows {
		together[groups[row[0].choice]] += r.costTogether(all, row)
	}
	for i := range all {
		if c := &all[i]; apart[groups[i]] <= together[groups[i]] {
			r.put(c.id, c.lo, r.parts(r.chosen(asked, c.then, c.other)), isBare)
		}
	}
	for _, row := range rows {
		if g := groups[row[0].choice]; apart[g] > together[g] {
			r.chooseRow(asked, all, row, isBare)
		}
	}
}

func (r *routine) chosen(asked int, then, other []part) int {
	return r.operation(api.XIf, widthOf(then), asked, r.join(then), r.join(other))
}

// rowsOf puts the pieces of choices into rows, in which each goes on where the one ahead ends.
func rowsOf(all []choice) [][]piece {
	var pieces []piece
	for i := range all {
		lo := 0
		for _, p := range all[i].then {
			pieces = append(pieces, piece{i, lo, p})
			lo += p.width
		}
	}
	slices.SortStableFunc(pieces, func(a, b piece) int {
		return cmp.Or(cmp.Compare(a.node, b.node), cmp.Compare(a.part.lo, b.part.lo))
	})
	var rows [][]piece
	for i, p := range pieces {
		if i > 0 && goesOn(pieces[i-1].part, p.part) {
			last := &rows[len(rows)-1]
			*last = append(*last, p)
		} else {
			rows = append(rows, []piece{p})
		}
	}
	return rows
}

func goesOn(ahead, p part) bool {
	return ahead.node == p.node && ahead.lo+ahead.width == p.lo
}

// groupsOf tells of each choice the least one with which it hangs together by rows.
func groupsOf(count int, rows [][]piece) []int {
	first := make([]int, count)
	for i := range first {
		first[i] = i
	}
	root := func(i int) int {
		for first[i] != i {
			first[i] = first[first[i]]
			i = first[i]
		}
		return i
	}
	for _, row := range rows {
		for _, p := range row[1:] {
			a, b := root(row[0].choice), root(p.choice)
			first[max(a, b)] = min(a, b)
		}
	}
	for i := range first {
		first[i] = root(i)
	}
	return first
}

// cost tells how many nodes must be made for the bits of a list.
func (r *routine) cost(all []part) int {
	n := 0
	for _, p := range all {
		if r.isFresh(p) {
			n++
		}
	}
	if len(all) > 1 {
		n++
	}
	return n
}

// splitUp splits choices where that costs no more.
func (r *routine) splitUp(all []choice) []choice {
	var list []choice
	for i := range all {
		c := &all[i]
		split := c.split()
		n := 0
		for k := range split {
			n += r.costApart(&split[k])
		}
		if n > r.costApart(c) {
			split = []choice{*c}
		}
		list = append(list, split...)
	}
	return list
}

// split makes choices of a choice, in each of which there is but one part to be taken, or not.
func (c *choice) split() []choice {
	var list []choice
	all := widthOf(c.then)
	for lo := 0; lo < all; {
		width := min(cut(c.then, lo, all-lo)[0].width, cut(c.other, lo, all-lo)[0].width)
		list = append(list, choice{c.id, c.lo + lo, cut(c.then, lo, width), cut(c.other, lo, width)})
		lo += width
	}
	return list
}

func (r *routine) costApart(c *choice) int {
	return 1 + r.cost(c.then) + r.cost(c.other)
}

// costTogether counts the cuts of the outcome, too.
func (r *routine) costTogether(all []choice, row []piece) int {
	then, other := sides(all, row)
	n := 1 + r.cost(then) + r.cost(other)
	if len(row) > 1 {
		n += len(row)
	}
	return n
}

// sides tells the bits of a row, if they are taken, and if not.
func sides(all []choice, row []piece) (then, other []part) {
	for _, p := range row {
		then = push(then, p.part)
		other = pushAll(other, cut(all[p.choice].other, p.lo, p.width))
	}
	return then, other
}

func (r *routine) chooseRow(asked int, all []choice, row []piece, isBare bool) {
	then, other := sides(all, row)
	bits := r.parts(r.chosen(asked, then, other))
	lo := 0
	for _, p := range row {
		c := &all[p.choice]
		r.put(c.id, c.lo+p.lo, cut(bits, lo, p.width), isBare)
		lo += p.width
	}
}
