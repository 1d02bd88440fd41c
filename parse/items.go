package parse

import "gatewright/api"

// itemReaders tells by which function an item is read, by the word that it begins with. init fills it: parts hold items again, so a starting value would need itself.
var itemReaders map[string]func(*reader) []api.Item

func init() {
	itemReaders = map[string]func(*reader) []api.Item{
		"wire":       (*reader).wires,
		"reg":        (*reader).regs,
		"localparam": (*reader).localParam,
		"assign":     (*reader).assign,
		"always":     (*reader).always,
		"for":        (*reader).forItem,
		"if":         (*reader).ifItem,
	}
}

func (r *reader) module() api.Module {
	at := r.need("module")
	name, _ := r.name()
	m := api.Module{Name: name, At: at}
	m.Params = hashed(r, (*reader).param)
	m.Ports = bracketed(r, (*reader).port)
	r.need(";")
	m.Items = r.itemsUntil("endmodule")
	return m
}

func (r *reader) param() api.Bind {
	name, at := r.name()
	r.need("=")
	return api.Bind{Name: name, At: at, Given: true, Value: r.expr()}
}

func (r *reader) port() api.Port {
	var p api.Port
	if !r.take("input") {
		r.need("output")
		p.Out = true
		p.Reg = r.take("reg")
	}
	p.Range = r.optionalRange()
	p.Name, p.At = r.name()
	return p
}

// itemsUntil reads items until a word stands there, and passes over that. A declaration gives several.
func (r *reader) itemsUntil(word string) []api.Item {
	var items []api.Item
	for _, some := range listUntil(r, word, (*reader).item) {
		items = append(items, some...)
	}
	return items
}

func (r *reader) item() []api.Item {
	if r.now.kind == tokenName {
		return r.use()
	}
	read, ok := itemReaders[r.now.text]
	if !ok {
		r.fail()
	}
	return read(r)
}

func (r *reader) wires() []api.Item {
	r.need("wire")
	width := r.optionalRange()
	var items []api.Item
	for {
		name, at := r.name()
		items = append(items, api.Item{Kind: api.IWire, At: at, Name: name, Range: r.ownRange(width)})
		if r.take("=") {
			target := api.Expr{Kind: api.EName, At: at, Name: name}
			items = append(items, api.Item{Kind: api.IAssign, At: at, Target: target, Value: r.expr()})
		}
		if !r.take(",") {
			break
		}
	}
	r.need(";")
	return items
}

func (r *reader) regs() []api.Item {
	r.need("reg")
	width := r.optionalRange()
	items := list(r, func(r *reader) api.Item { return r.oneReg(width) })
	r.need(";")
	return items
}

func (r *reader) oneReg(width api.Range) api.Item {
	name, at := r.name()
	i := api.Item{Kind: api.IReg, At: at, Name: name, Range: r.ownRange(width)}
	switch {
	case r.take("="):
		i.Given = true
		i.Value = r.expr()
	case r.is("["):
		i.Kind = api.IMemory
		i.Words = r.optionalRange()
	}
	return i
}

func (r *reader) localParam() []api.Item {
	at := r.need("localparam")
	name, _ := r.name()
	r.need("=")
	value := r.expr()
	r.need(";")
	return []api.Item{{Kind: api.IParam, At: at, Name: name, Value: value}}
}

func (r *reader) assign() []api.Item {
	at := r.need("assign")
	target := r.target()
	r.need("=")
	value := r.expr()
	r.need(";")
	return []api.Item{{Kind: api.IAssign, At: at, Target: target, Value: value}}
}

func (r *reader) always() []api.Item {
	at := r.need("always")
	r.need("@")
	clocked := r.take("clk")
	if !clocked {
		r.need("*")
	}
	return []api.Item{{Kind: api.IAlways, At: at, Clocked: clocked, Body: r.stmt()}}
}

func (r *reader) use() []api.Item {
	module, at := r.name()
	params := hashed(r, (*reader).given)
	name, _ := r.name()
	ports := bracketed(r, (*reader).bind)
	r.need(";")
	return []api.Item{{Kind: api.IUse, At: at, Module: module, Name: name, Params: params, Ports: ports}}
}

// given reads a bind in which something must stand.
func (r *reader) given() api.Bind {
	b := api.Bind{At: r.need("."), Given: true}
	b.Name, _ = r.name()
	b.Value = r.condition()
	return b
}

func (r *reader) bind() api.Bind {
	b := api.Bind{At: r.need(".")}
	b.Name, _ = r.name()
	r.need("(")
	if r.take(")") {
		return b
	}
	b.Given = true
	b.Value = r.expr()
	r.need(")")
	return b
}

func (r *reader) forItem() []api.Item {
	i := api.Item{Kind: api.IFor, At: r.need("for")}
	i.Name, i.Exprs = r.loop()
	i.Label, i.Items = r.part()
	return []api.Item{i}
}

func (r *reader) ifItem() []api.Item {
	i := api.Item{Kind: api.IIf, At: r.need("if")}
	i.Value = r.condition()
	i.Label, i.Items = r.part()
	if r.take("else") {
		i.HasElse = true
		i.ElseLabel, i.Else = r.part()
	}
	return []api.Item{i}
}

// part reads a label, and the items that stand under it.
func (r *reader) part() (string, []api.Item) {
	r.need("begin")
	r.need(":")
	label, _ := r.name()
	return label, r.itemsUntil("end")
}
