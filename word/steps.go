package word

import (
	"cmp"
	"maps"
	"slices"

	"gatewright/api"
)

// The steps of bits that stand side by side, and have the same conditions, are choices between words. A design that sets scattered bits, many at a time, would have too many nodes so. If need be, it is made frugally: then a step of many bits is made by few nodes, though each of them has its own condition. These are put side by side, as the bits are.

// manySteps is how many must wait for a bit, so that it is worth while to put it beside bits of other nets.
const manySteps = 8

// stepCost is how many nodes a step of a row of bits needs, if their conditions are not the same.
const stepCost = 5

// slot is a bit of a net, and steps that wait for it, from the first one on.
type slot struct {
	id, bit int
	steps   []step
}

// settle makes steps of bits of a net. If there are many for few bits, a frugal one makes those of all such nets.
func (r *routine) settle(row []slot) {
	if len(row) == 0 {
		return
	}
	rows := [][]slot{row}
	if r.isFrugal && isLong(row) {
		for _, id := range slices.Sorted(maps.Keys(r.waiting)) {
			if other := r.slotsOf(id); id != row[0].id && isLong(other) {
				rows = append(rows, other)
			}
		}
	}
	r.makeSteps(rows)
}

// settleAll makes all steps.
func (r *routine) settleAll() {
	var rows [][]slot
	for _, id := range slices.Sorted(maps.Keys(r.waiting)) {
		rows = append(rows, r.slotsOf(id))
	}
	r.makeSteps(rows)
}

// slotsOf tells the bits of a net for which steps wait.
func (r *routine) slotsOf(id int) []slot {
	var row []slot
	for bit, steps := range r.waiting[id] {
		if len(steps) > 0 {
			row = append(row, slot{id, bit, steps})
		}
	}
	return row
}

// makeSteps makes steps of bits, of which each row is of one net: those together that have the same conditions; or, frugally, the whole row, or bits of several rows.
func (r *routine) makeSteps(rows [][]slot) {
	var mixed []slot
	for _, row := range rows {
		r.strikeOff(row)
		if r.isFrugal && len(rows) > 1 && costMixed(row) < min(costApart(row), costWhole(row)) {
			mixed = append(mixed, row...)
		} else {
			r.makeRow(row)
		}
	}
	// Bits for which as many steps wait come together: no bit idles long.
	slices.SortStableFunc(mixed, func(a, b slot) int { return cmp.Compare(len(b.steps), len(a.steps)) })
	for row := range slices.Chunk(mixed, api.MaxWidth) {
		r.makeRow(row)
	}
}

// strikeOff takes steps of a net off those that wait.
func (r *routine) strikeOff(row []slot) {
	id := row[0].id
	for _, s := range row {
		r.waiting[id][s.bit] = r.waiting[id][s.bit][len(s.steps):]
	}
	r.tidy(id)
}

// makeRow makes the steps of a row, as a whole or cut into pieces.
func (r *routine) makeRow(row []slot) {
	if r.isFrugal && costWhole(row) < costApart(row) {
		r.become(row, r.wholeRow(row))
		return
	}
	for _, piece := range alike(row) {
		r.become(piece, r.alikeRow(piece))
	}
}

// become gives the bits of a row those of a node.
func (r *routine) become(row []slot, node int) {
	bits := r.parts(node)
	for i := range row {
		id := row[i].id
		r.values[id] = with(r.valueOf(id), row[i].bit, cut(bits, i, 1))
	}
}

// before is what the bits of a row are worth ahead of their steps.
func (r *routine) before(row []slot) int {
	var bits []part
	for i := range row {
		id, bit := row[i].id, row[i].bit
		bits = pushAll(bits, r.held(id, cut(r.valueOf(id), bit, 1), bit))
	}
	return r.join(bits)
}

// stepOf tells the bits of a row in a step, and their conditions; where there is no such step, nothing.
func stepOf(row []slot, number int) (bits, paths []part) {
	for i := range row {
		path, bit := part{nothing, 0, 1}, part{nothing, 0, 1}
		if steps := row[i].steps; number < len(steps) {
			path.node, bit = steps[number].path, steps[number].bit
		}
		bits, paths = append(bits, bit), append(paths, path)
	}
	return bits, paths
}

// wholeRow makes the steps of bits that have each its own condition: where that holds, a bit becomes another one.
func (r *routine) wholeRow(row []slot) int {
	node, width := r.before(row), len(row)
	for i := range longest(row) {
		bits, paths := stepOf(row, i)
		value := r.join(bits)
		if hasOnePath(row, i) {
			node = r.operation(api.XIf, width, paths[0].node, value, node)
			continue
		}
		node = r.changed(node, value, r.join(paths))
	}
	return node
}

// changed is a word that becomes another one where a third one has ones.
func (r *routine) changed(node, value, taken int) int {
	width := r.width(node)
	if r.isNumber(value) {
		kept := r.operation(api.XAnd, width, node, r.operation(api.XNot, width, taken))
		return r.operation(api.XOr, width, kept, r.operation(api.XAnd, width, value, taken))
	}
	unlike := r.operation(api.XXor, width, node, value)
	return r.operation(api.XXor, width, node, r.operation(api.XAnd, width, unlike, taken))
}

// outcome is what bits become, if a path is taken.
type outcome struct {
	path, node int
}

// alikeRow makes the steps of bits that have the same conditions. Where both branches of an if have set them, its own condition tells which one holds: what was ahead of it may not count any more.
func (r *routine) alikeRow(row []slot) int {
	var all []outcome
	for i := range row[0].steps {
		bits, paths := stepOf(row, i)
		all = append(all, outcome{paths[0].node, r.join(bits)})
		for r.endsWithTwins(all) {
			last := len(all) - 1
			t := r.twins[all[last].path]
			node := r.operation(api.XIf, len(row), t.asked, all[last-1].node, all[last].node)
			all = append(all[:last-1], outcome{t.outer, node})
		}
	}
	node := r.before(row)
	for _, o := range all {
		node = r.operation(api.XIf, len(row), o.path, o.node, node)
	}
	return node
}

// endsWithTwins asks whether the last two outcomes are of both branches of an if.
func (r *routine) endsWithTwins(all []outcome) bool {
	last := len(all) - 1
	if last < 1 {
		return false
	}
	t, there := r.twins[all[last].path]
	return there && t.then == all[last-1].path
}
