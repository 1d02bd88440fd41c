package elab

import "gatewright/api"

// number tells a number that must be known ahead.
func number(s *scope, e *api.Expr) uint32 {
	n, why := known(s, e)
	if why != nil {
		panic(why)
	}
	return n
}

// known tells a number that is known ahead, or why it is none.
func known(s *scope, e *api.Expr) (uint32, *api.Fault) {
	switch e.Kind {
	case api.ENum:
		return uint32(e.Num), nil
	case api.EName:
		t, there := s.find(e.Name)
		if !there {
			return 0, &api.Fault{Code: api.FName, At: e.At}
		}
		if t.kind == aNumber {
			return t.number, nil
		}
	case api.EUnary, api.EBinary, api.ECond:
		if !foldsBits(e) {
			return knownOperation(s, e)
		}
	}
	return 0, &api.Fault{Code: api.FConst, At: e.At}
}

// foldsBits asks for & | ^ with one operand.
func foldsBits(e *api.Expr) bool {
	return e.Op == api.OpAll || e.Op == api.OpAny || e.Op == api.OpOdd
}

// knownOperation works out an operation; all its operands must be known, even one that does not matter.
func knownOperation(s *scope, e *api.Expr) (uint32, *api.Fault) {
	var x [3]uint32
	for i := range e.Args {
		n, why := known(s, &e.Args[i])
		if why != nil {
			return 0, why
		}
		x[i] = n
	}
	switch {
	case e.Kind == api.EUnary:
		return unary(e.Op, x[0]), nil
	case e.Kind == api.EBinary:
		return binary(e.Op, x[0], x[1]), nil
	case x[0] != 0:
		return x[1], nil
	}
	return x[2], nil
}

func unary(op int, x uint32) uint32 {
	switch op {
	case api.OpNot:
		return ^x
	case api.OpMinus:
		return -x
	}
	return oneIf(x == 0)
}

func binary(op int, x, y uint32) uint32 {
	switch op {
	case api.OpMul:
		return x * y
	case api.OpAdd:
		return x + y
	case api.OpSub:
		return x - y
	case api.OpShl:
		return x << y
	case api.OpShr:
		return x >> y
	case api.OpAnd:
		return x & y
	case api.OpXor:
		return x ^ y
	case api.OpOr:
		return x | y
	}
	return oneIf(holds(op, x, y))
}

// holds works out the operations that ask.
func holds(op int, x, y uint32) bool {
	switch op {
	case api.OpLt:
		return x < y
	case api.OpLe:
		return x <= y
	case api.OpGt:
		return x > y
	case api.OpGe:
		return x >= y
	case api.OpEq:
		return x == y
	case api.OpNe:
		return x != y
	case api.OpBoth:
		return x != 0 && y != 0
	}
	return x != 0 || y != 0
}

func oneIf(is bool) uint32 {
	if is {
		return 1
	}
	return 0
}
