package parse

import (
	"strconv"
	"strings"

	"gatewright/api"
)

// printer writes into the builder that it embeds.
type printer struct {
	strings.Builder
}

func (p *printer) put(texts ...string) {
	for _, t := range texts {
		p.WriteString(t)
	}
}

// commas writes a list with `, ` between two.
func commas[T any](p *printer, all []T, one func(T)) {
	for i, x := range all {
		if i > 0 {
			p.put(", ")
		}
		one(x)
	}
}

// hash writes `#( .. ) ` around a list, if something is in it.
func hash[T any](p *printer, all []T, one func(T)) {
	if len(all) == 0 {
		return
	}
	p.put("#(")
	commas(p, all, one)
	p.put(") ")
}

func (p *printer) module(m api.Module) {
	p.put("module ", m.Name, " ")
	hash(p, m.Params, p.param)
	p.put("(")
	commas(p, m.Ports, p.port)
	p.put(");\n")
	p.items(m.Items)
	p.put("endmodule\n")
}

func (p *printer) param(b api.Bind) {
	p.put(b.Name)
	p.value(b.Value)
}

func (p *printer) port(o api.Port) {
	switch {
	case !o.Out:
		p.put("input ")
	case o.Reg:
		p.put("output reg ")
	default:
		p.put("output ")
	}
	p.width(o.Range)
	p.put(o.Name)
}

// width writes a range with a blank behind it, if there is one.
func (p *printer) width(g api.Range) {
	if g.On {
		p.rangeOf(g)
		p.put(" ")
	}
}

func (p *printer) rangeOf(g api.Range) {
	p.put("[")
	p.expr(g.Hi)
	p.put(":")
	p.expr(g.Lo)
	p.put("]")
}

func (p *printer) value(e api.Expr) {
	p.put(" = ")
	p.expr(e)
}

func (p *printer) items(items []api.Item) {
	for _, i := range items {
		p.item(i)
		p.put("\n")
	}
}

func (p *printer) item(i api.Item) {
	switch i.Kind {
	case api.IWire, api.IReg, api.IMemory:
		p.net(i)
	case api.IParam:
		p.put("localparam ", i.Name)
		p.value(i.Value)
		p.put(";")
	case api.IAssign:
		p.put("assign ")
		p.expr(i.Target)
		p.value(i.Value)
		p.put(";")
	case api.IAlways:
		p.always(i)
	case api.IUse:
		p.use(i)
	case api.IFor:
		p.loop(i.Name, i.Exprs)
		p.put(" ")
		p.part(i.Label, i.Items)
	case api.IIf:
		p.condition("if", i.Value)
		p.put(" ")
		p.part(i.Label, i.Items)
		if i.HasElse {
			p.put(" else ")
			p.part(i.ElseLabel, i.Else)
		}
	}
}

func (p *printer) net(i api.Item) {
	if i.Kind == api.IWire {
		p.put("wire ")
	} else {
		p.put("reg ")
	}
	p.width(i.Range)
	p.put(i.Name)
	switch {
	case i.Kind == api.IMemory:
		p.put(" ")
		p.rangeOf(i.Words)
	case i.Given:
		p.value(i.Value)
	}
	p.put(";")
}

func (p *printer) always(i api.Item) {
	if i.Clocked {
		p.put("always @clk ")
	} else {
		p.put("always @* ")
	}
	p.stmt(i.Body)
}

func (p *printer) use(i api.Item) {
	p.put(i.Module, " ")
	hash(p, i.Params, p.bind)
	p.put(i.Name, " (")
	commas(p, i.Ports, p.bind)
	p.put(");")
}

func (p *printer) bind(b api.Bind) {
	p.put(".", b.Name, "(")
	if b.Given {
		p.expr(b.Value)
	}
	p.put(")")
}

func (p *printer) part(label string, items []api.Item) {
	p.put("begin : ", label, "\n")
	p.items(items)
	p.put("end")
}

func (p *printer) condition(word string, e api.Expr) {
	p.put(word, " (")
	p.expr(e)
	p.put(")")
}

func (p *printer) loop(name string, exprs []api.Expr) {
	p.put("for (", name)
	p.value(exprs[0])
	p.put("; ")
	p.expr(exprs[1])
	p.put("; ", name)
	p.value(exprs[2])
	p.put(")")
}

func (p *printer) stmt(s api.Stmt) {
	switch s.Kind {
	case api.SNone:
		p.put(";")
	case api.SBlock:
		p.put("begin ")
		for _, inner := range s.Stmts {
			p.stmt(inner)
			p.put(" ")
		}
		p.put("end")
	case api.SIf:
		p.ifStmt(s)
	case api.SCase:
		p.condition("case", s.Exprs[0])
		p.put(" ")
		for _, a := range s.Arms {
			p.arm(a)
			p.put(" ")
		}
		p.put("endcase")
	case api.SFor:
		p.loop(s.Name, s.Exprs)
		p.put(" ")
		p.stmt(s.Stmts[0])
	case api.SSet:
		p.set(s)
	}
}

func (p *printer) ifStmt(s api.Stmt) {
	p.condition("if", s.Exprs[0])
	p.put(" ")
	p.stmt(s.Stmts[0])
	if len(s.Stmts) > 1 {
		p.put(" else ")
		p.stmt(s.Stmts[1])
	}
}

func (p *printer) arm(a api.Arm) {
	if a.Default {
		p.put("default")
	} else {
		commas(p, a.Labels, p.expr)
	}
	p.put(": ")
	p.stmt(a.Body)
}

func (p *printer) set(s api.Stmt) {
	p.expr(s.Exprs[0])
	if s.Later {
		p.put(" <= ")
	} else {
		p.put(" = ")
	}
	p.expr(s.Exprs[1])
	p.put(";")
}

func (p *printer) expr(e api.Expr) {
	switch e.Kind {
	case api.ENum:
		p.number(e)
	case api.EName:
		p.put(e.Name)
	case api.EIndex, api.EPart:
		p.place(e)
	case api.EUnary:
		p.put(signOf(e.Op))
		p.operand(e.Args[0])
	case api.EBinary:
		p.operand(e.Args[0])
		p.put(" ", signOf(e.Op), " ")
		p.operand(e.Args[1])
	case api.ECond:
		p.operand(e.Args[0])
		p.put(" ? ")
		p.operand(e.Args[1])
		p.put(" : ")
		p.operand(e.Args[2])
	case api.EConcat:
		p.put("{")
		commas(p, e.Args, p.expr)
		p.put("}")
	case api.ERepeat:
		p.put("{")
		p.expr(e.Args[0])
		p.expr(e.Args[1])
		p.put("}")
	}
}

func (p *printer) number(e api.Expr) {
	if e.Width > 0 {
		p.put(strconv.Itoa(e.Width), "'d")
	}
	p.put(strconv.FormatUint(e.Num, 10))
}

func (p *printer) place(e api.Expr) {
	p.put(e.Name, "[")
	p.expr(e.Args[0])
	if e.Kind == api.EPart {
		p.put(":")
		p.expr(e.Args[1])
	}
	p.put("]")
}

// operand writes an expression, in round brackets if it is an operation.
func (p *printer) operand(e api.Expr) {
	switch e.Kind {
	case api.EUnary, api.EBinary, api.ECond:
		p.put("(")
		p.expr(e)
		p.put(")")
	default:
		p.expr(e)
	}
}

// signOf tells an operation's sign; no two operations have one number.
func signOf(op int) string {
	for i := range unaries {
		if unaries[i].op == op {
			return unaries[i].sign
		}
	}
	for i := range binaries {
		if binaries[i].op == op {
			return binaries[i].sign
		}
	}
	return ""
}
