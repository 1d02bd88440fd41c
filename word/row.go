package word

import (
	"slices"

	"gatewright/api"
)

// alike cuts a row into pieces of bits that stand side by side, and have the same conditions.
func alike(row []slot) [][]slot {
	var all [][]slot
	from := 0
	for i := range row {
		if i > from && !goesOn(&row[i-1], &row[i]) {
			all = append(all, row[from:i])
			from = i
		}
	}
	return append(all, row[from:])
}

func goesOn(ahead, s *slot) bool {
	return ahead.id == s.id && ahead.bit+1 == s.bit &&
		slices.EqualFunc(ahead.steps, s.steps, func(a, b step) bool { return a.path == b.path })
}

func longest(row []slot) int {
	n := 0
	for i := range row {
		n = max(n, len(row[i].steps))
	}
	return n
}

// hasOnePath asks whether all bits of a row have the same condition in a step.
func hasOnePath(row []slot, number int) bool {
	for i := range row {
		steps := row[i].steps
		if number >= len(steps) || steps[number].path != row[0].steps[number].path {
			return false
		}
	}
	return true
}

// isLong asks whether many steps wait for few bits of a net.
func isLong(row []slot) bool {
	return longest(row) >= manySteps && costMixed(row) < min(costApart(row), costWhole(row))
}

// costApart is about how many nodes there are, if the pieces of a row are cut out, and chosen by themselves.
func costApart(row []slot) int {
	n := 0
	for _, piece := range alike(row) {
		n += 1 + len(piece[0].steps)
	}
	return n
}

// costWhole is about how many there are, if its bits stay together.
func costWhole(row []slot) int {
	n := 0
	for i := range longest(row) {
		if hasOnePath(row, i) {
			n += 2
		} else {
			n += stepCost
		}
	}
	return n
}

// costMixed is about how many there are, if they are put beside others.
func costMixed(row []slot) int {
	n := 0
	for i := range row {
		n += len(row[i].steps)
	}
	return 2*len(row) + stepCost*n/api.MaxWidth
}
