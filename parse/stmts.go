package parse

import "gatewright/api"

func (r *reader) stmt() api.Stmt {
	at := r.now.at
	switch {
	case r.take(";"):
		return api.Stmt{Kind: api.SNone, At: at}
	case r.take("begin"):
		return api.Stmt{Kind: api.SBlock, At: at, Stmts: listUntil(r, "end", (*reader).stmt)}
	case r.take("if"):
		return r.ifStmt(at)
	case r.take("case"):
		return r.caseStmt(at)
	case r.take("for"):
		name, exprs := r.loop()
		return api.Stmt{Kind: api.SFor, At: at, Name: name, Exprs: exprs, Stmts: []api.Stmt{r.stmt()}}
	}
	return r.set(at)
}

func (r *reader) ifStmt(at int) api.Stmt {
	asked := r.condition()
	branches := []api.Stmt{r.stmt()}
	if r.take("else") {
		branches = append(branches, r.stmt())
	}
	return api.Stmt{Kind: api.SIf, At: at, Exprs: []api.Expr{asked}, Stmts: branches}
}

func (r *reader) caseStmt(at int) api.Stmt {
	s := api.Stmt{Kind: api.SCase, At: at, Exprs: []api.Expr{r.condition()}}
	var hasDefault bool
	for !r.take("endcase") {
		if r.is("default") {
			if hasDefault {
				r.fail()
			}
			hasDefault = true
		}
		s.Arms = append(s.Arms, r.arm())
	}
	return s
}

func (r *reader) arm() api.Arm {
	if r.take("default") {
		r.take(":")
		return api.Arm{Default: true, Body: r.stmt()}
	}
	labels := list(r, (*reader).expr)
	r.need(":")
	return api.Arm{Labels: labels, Body: r.stmt()}
}

func (r *reader) set(at int) api.Stmt {
	target := r.target()
	later := r.take("<=")
	if !later {
		r.need("=")
	}
	value := r.expr()
	r.need(";")
	return api.Stmt{Kind: api.SSet, At: at, Later: later, Exprs: []api.Expr{target, value}}
}

// condition reads an expression in round brackets.
func (r *reader) condition() api.Expr {
	r.need("(")
	e := r.expr()
	r.need(")")
	return e
}

// loop reads a loop's name, and its three expressions: from, as long as, next.
func (r *reader) loop() (string, []api.Expr) {
	r.need("(")
	name, _ := r.name()
	r.need("=")
	from := r.expr()
	r.need(";")
	while := r.expr()
	r.need(";")
	if r.now.kind != tokenName || r.now.text != name {
		r.fail()
	}
	r.step()
	r.need("=")
	next := r.expr()
	r.need(")")
	return name, []api.Expr{from, while, next}
}
