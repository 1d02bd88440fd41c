package place

import (
	"gatewright/api"
	"gatewright/lut"
)

const (
	mostPins = 500 // inputs, outputs, registers of a fabric
	mostRows = 500
	mostCols = 100
)

// IsShape asks whether there is a fabric of that shape.
func IsShape(s api.Shape) bool {
	return isWithin(s.Inputs, 0, mostPins) && isWithin(s.Outputs, 0, mostPins) && isWithin(s.Regs, 0, mostPins) &&
		isWithin(s.Rows, 1, mostRows) && isWithin(s.Cols, 1, mostCols)
}

func isWithin(number, least, most int) bool { return least <= number && number <= most }

// isLargeEnough asks whether a shape has all but perhaps the rows that a net needs.
func isLargeEnough(n *api.Tables, s api.Shape) bool {
	return s.Inputs >= n.Inputs && s.Outputs >= len(n.Outputs) && s.Regs >= len(n.Init) && s.Cols >= lut.Depth(*n)
}
