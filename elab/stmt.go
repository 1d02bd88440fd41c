package elab

import (
	"gatewright/api"
	"gatewright/fault"
)

// mostCopied bounds the nodes that are written down anew for the labels of cases: a long expression ahead of many labels would fill any memory.
const mostCopied = 1 << 21

// routine is a process that is being laid down.
type routine struct {
	*builder
	clocked bool
}

// stmt puts the acts of a statement behind others.
func (r routine) stmt(s *scope, st *api.Stmt, acts *[]api.Act) {
	switch st.Kind {
	case api.SBlock:
		for i := range st.Stmts {
			r.stmt(s, &st.Stmts[i], acts)
		}
	case api.SIf:
		*acts = append(*acts, r.ifStmt(s, st))
	case api.SCase:
		*acts = append(*acts, r.caseStmt(s, st)...)
	case api.SSet:
		*acts = append(*acts, r.setStmt(s, st))
	case api.SFor:
		r.loop(s, st.Name, st.Exprs, st.At, func(inner *scope, _ uint32) {
			r.stmt(inner, &st.Stmts[0], acts)
		})
	}
}

// branch gives the acts of a statement alone.
func (r routine) branch(s *scope, st *api.Stmt) []api.Act {
	var acts []api.Act
	r.stmt(s, st, &acts)
	return acts
}

func (r routine) ifStmt(s *scope, st *api.Stmt) api.Act {
	asked := look(s, &st.Exprs[0])
	r.act(st.At)
	act := api.Act{Kind: api.AIf, If: asked.truth(), Then: r.branch(s, &st.Stmts[0])}
	if len(st.Stmts) > 1 {
		act.Else = r.branch(s, &st.Stmts[1])
	}
	return act
}

func (r routine) setStmt(s *scope, st *api.Stmt) api.Act {
	how := atOnce
	if st.Later {
		how = later
	}
	if st.Later && !r.clocked {
		fault.Throw(api.FKind, st.At)
	}
	to := target(s, &st.Exprs[0], how)
	v := look(s, &st.Exprs[1])
	r.act(st.At)
	return setAct(to, v, st.Later)
}

// caseStmt makes a case a chain of ifs, with the default at its end.
func (r routine) caseStmt(s *scope, st *api.Stmt) []api.Act {
	conditions := r.conditions(s, st)
	var chain, last []api.Act
	for i := range st.Arms {
		arm := &st.Arms[i]
		r.act(arm.Body.At)
		acts := r.branch(s, &arm.Body)
		if arm.Default {
			last = acts
		} else {
			chain = append(chain, api.Act{Kind: api.AIf, If: conditions[i], Then: acts})
		}
	}
	for i := len(chain) - 1; i >= 0; i-- {
		chain[i].Else = last
		last = []api.Act{chain[i]}
	}
	return last
}

// conditions tells of each arm of a case when it is taken, if none ahead is.
func (r routine) conditions(s *scope, st *api.Stmt) []api.Exp {
	subject := look(s, &st.Exprs[0])
	width := subject.width
	labels := make([][]value, len(st.Arms))
	for i := range st.Arms {
		for k := range st.Arms[i].Labels {
			v := look(s, &st.Arms[i].Labels[k])
			labels[i] = append(labels[i], v)
			width = max(width, v.width)
		}
	}
	again := r.copies(subject, width)
	conditions := make([]api.Exp, len(st.Arms))
	for i := range labels {
		for k, v := range labels[i] {
			same := node(api.XEq, 1, again(), v.at(width))
			if k > 0 {
				same = node(api.XOr, 1, conditions[i], same)
			}
			conditions[i] = same
		}
	}
	return conditions
}

// copies gives a function that works a value out in new memory each time, until there have been too many copies.
func (r routine) copies(v value, width int) func() api.Exp {
	first := v.at(width)
	size := sizeOf(&first)
	return func() api.Exp {
		if r.copied > mostCopied {
			return first
		}
		r.copied += size
		return v.at(width)
	}
}

// sizeOf counts the nodes of an expression.
func sizeOf(x *api.Exp) int {
	size := 1
	for i := range x.Args {
		size += sizeOf(&x.Args[i])
	}
	return size
}
