package parse

import "gatewright/api"

// operation: a sign and what it does; level: how tight a binary one binds, from 1 on.
type operation struct {
	sign      string
	op, level int
}

var unaries = [...]operation{
	{"~", api.OpNot, 0},
	{"!", api.OpNo, 0},
	{"-", api.OpMinus, 0},
	{"&", api.OpAll, 0},
	{"|", api.OpAny, 0},
	{"^", api.OpOdd, 0},
}

var binaries = [...]operation{
	{"||", api.OpOne, 1},
	{"&&", api.OpBoth, 2},
	{"|", api.OpOr, 3},
	{"^", api.OpXor, 4},
	{"&", api.OpAnd, 5},
	{"==", api.OpEq, 6},
	{"!=", api.OpNe, 6},
	{"<", api.OpLt, 7},
	{"<=", api.OpLe, 7},
	{">", api.OpGt, 7},
	{">=", api.OpGe, 7},
	{"<<", api.OpShl, 8},
	{">>", api.OpShr, 8},
	{"+", api.OpAdd, 9},
	{"-", api.OpSub, 9},
	{"*", api.OpMul, 10},
}

// unaryOp tells the operation with one operand that begins here; 0: none.
func (r *reader) unaryOp() int {
	for i := range unaries {
		if r.is(unaries[i].sign) {
			return unaries[i].op
		}
	}
	return 0
}

// binaryOp tells the operation with two operands whose sign stands here, and its level; 0, 0: none.
func (r *reader) binaryOp() (op, level int) {
	for i := range binaries {
		if r.is(binaries[i].sign) {
			return binaries[i].op, binaries[i].level
		}
	}
	return 0, 0
}

func (r *reader) expr() api.Expr {
	asked := r.binary(1)
	at := r.now.at
	if !r.take("?") {
		return asked
	}
	then := r.expr()
	r.need(":")
	other := r.expr()
	return api.Expr{Kind: api.ECond, At: at, Args: []api.Expr{asked, then, other}}
}

// binary reads operations of a level and of tighter ones.
func (r *reader) binary(loosest int) api.Expr {
	left := r.unary()
	for {
		op, level := r.binaryOp()
		if level < loosest {
			return left
		}
		at := r.now.at
		r.step()
		right := r.binary(level + 1)
		left = api.Expr{Kind: api.EBinary, At: at, Op: op, Args: []api.Expr{left, right}}
	}
}

func (r *reader) unary() api.Expr {
	op := r.unaryOp()
	if op == 0 {
		return r.primary()
	}
	at := r.now.at
	r.step()
	return api.Expr{Kind: api.EUnary, At: at, Op: op, Args: []api.Expr{r.unary()}}
}

func (r *reader) primary() api.Expr {
	switch {
	case r.now.kind == tokenNumber:
		return r.number()
	case r.is("{"):
		return r.braces()
	case r.take("("):
		inner := r.expr()
		r.need(")")
		return inner
	}
	return r.place()
}

func (r *reader) number() api.Expr {
	e := api.Expr{Kind: api.ENum, At: r.now.at, Num: r.now.num, Width: r.now.width}
	r.step()
	return e
}

func (r *reader) place() api.Expr {
	name, at := r.name()
	if !r.take("[") {
		return api.Expr{Kind: api.EName, At: at, Name: name}
	}
	e := api.Expr{Kind: api.EIndex, At: at, Name: name, Args: []api.Expr{r.expr()}}
	if r.take(":") {
		e.Kind = api.EPart
		e.Args = append(e.Args, r.expr())
	}
	r.need("]")
	return e
}

func (r *reader) braces() api.Expr {
	at := r.need("{")
	args := []api.Expr{r.expr()}
	kind := api.EConcat
	switch {
	case r.is("{"):
		kind = api.ERepeat
		args = append(args, r.joined((*reader).expr))
	case r.take(","):
		args = append(args, list(r, (*reader).expr)...)
	}
	r.need("}")
	return api.Expr{Kind: kind, At: at, Args: args}
}

// joined reads braces around one part or more.
func (r *reader) joined(part func(*reader) api.Expr) api.Expr {
	at := r.need("{")
	args := list(r, part)
	r.need("}")
	return api.Expr{Kind: api.EConcat, At: at, Args: args}
}

func (r *reader) target() api.Expr {
	if r.is("{") {
		return r.joined((*reader).target)
	}
	return r.place()
}

// optionalRange reads a range, if one stands there.
func (r *reader) optionalRange() api.Range {
	if !r.take("[") {
		return api.Range{}
	}
	high := r.expr()
	r.need(":")
	low := r.expr()
	r.need("]")
	return api.Range{On: true, Hi: high, Lo: low}
}

// ownRange gives a range to one of several names: a copy, so that no two items share a list; beyond maxCopies the range itself.
func (r *reader) ownRange(g api.Range) api.Range {
	if r.copied >= maxCopies {
		return g
	}
	g.Hi, g.Lo = r.ownExpr(g.Hi), r.ownExpr(g.Lo)
	return g
}

func (r *reader) ownExpr(e api.Expr) api.Expr {
	r.copied++
	if len(e.Args) == 0 {
		return e
	}
	args := make([]api.Expr, len(e.Args))
	for i, a := range e.Args {
		args[i] = r.ownExpr(a)
	}
	e.Args = args
	return e
}
