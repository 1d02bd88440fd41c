package elab

import (
	"strconv"
	"strings"

	"gatewright/api"
	"gatewright/fault"
)

// place is where items are laid down.
type place struct {
	scope  *scope
	prefix string // of the names of nets
	uses   int    // within so many uses
}

// lay lays a module down, and gives the scope of its names.
func (b *builder) lay(m *api.Module, given map[string]uint32, p place) *scope {
	p.scope = newScope(nil)
	for i := range m.Params {
		param := &m.Params[i]
		n, there := given[param.Name]
		if !there {
			n = number(p.scope, &param.Value)
		}
		p.scope.put(param.Name, thing{kind: aNumber, number: n}, param.At)
	}
	for i := range m.Ports {
		port := &m.Ports[i]
		n := api.Net{Name: port.Name, Width: widthOfRange(p.scope, &port.Range)}
		b.declare(p, n, thing{input: !port.Out, reg: port.Reg}, port.At)
	}
	b.items(p, m.Items)
	return p.scope
}

func (b *builder) items(p place, items []api.Item) {
	for i := range items {
		b.item(p, &items[i])
	}
}

func (b *builder) item(p place, it *api.Item) {
	switch it.Kind {
	case api.IWire, api.IReg, api.IMemory:
		b.declaration(p, it)
	case api.IParam:
		n := number(p.scope, &it.Value)
		p.scope.put(it.Name, thing{kind: aNumber, number: n}, it.At)
	case api.IAssign:
		to := target(p.scope, &it.Target, byAssign)
		b.set(to, look(p.scope, &it.Value), it.At)
	case api.IAlways:
		acts := routine{b, it.Clocked}.branch(p.scope, &it.Body)
		b.process(api.Proc{Clocked: it.Clocked, Acts: acts}, it.At)
	case api.IUse:
		b.use(p, it)
	case api.IFor:
		b.forItem(p, it)
	case api.IIf:
		b.ifItem(p, it)
	}
}

// declaration makes a net or a memory.
func (b *builder) declaration(p place, it *api.Item) {
	n := api.Net{Name: it.Name, Width: widthOfRange(p.scope, &it.Range)}
	if it.Kind == api.IReg && it.Given {
		n.Init = uint64(number(p.scope, &it.Value)) & (1<<n.Width - 1)
	}
	if it.Kind == api.IMemory {
		n.Words = wordsOfRange(p.scope, &it.Words)
	}
	b.declare(p, n, thing{reg: it.Kind != api.IWire}, it.At)
}

// declare makes a net, and then its name known. An answer shares nothing with what was handed in, so the name is cloned.
func (b *builder) declare(p place, n api.Net, t thing, at int) {
	t.kind, t.width, t.words = aNet, n.Width, n.Words
	if n.Words > 0 {
		t.kind = aMemory
	}
	name := n.Name
	n.Name = strings.Clone(p.prefix + name)
	t.net = b.net(n, at)
	p.scope.put(name, t, at)
}

// widthOfRange tells the width of a net; without a range it is a single bit.
func widthOfRange(s *scope, r *api.Range) int {
	if !r.On {
		return 1
	}
	hi, lo := number(s, &r.Hi), number(s, &r.Lo)
	needZero(lo, &r.Lo)
	return upTo(hi, &r.Hi, api.MaxWidth)
}

// wordsOfRange tells how many words a memory has: its range goes upwards.
func wordsOfRange(s *scope, r *api.Range) int {
	first, last := number(s, &r.Hi), number(s, &r.Lo)
	needZero(first, &r.Hi)
	return upTo(last, &r.Lo, api.MaxWords)
}

// needZero tells FRange, if a range does not begin with 0.
func needZero(n uint32, e *api.Expr) {
	if n != 0 {
		fault.Throw(api.FRange, e.At)
	}
}

// upTo counts from 0 up to n.
func upTo(n uint32, e *api.Expr, most int) int {
	if int64(n) >= int64(most) {
		fault.Throw(api.FWidth, e.At)
	}
	return int(n) + 1
}

// forItem lays a part down turn by turn.
func (b *builder) forItem(p place, it *api.Item) {
	p.scope.put(it.Label, thing{kind: aMark}, it.At)
	b.loop(p.scope, it.Name, it.Exprs, it.At, func(inner *scope, n uint32) {
		label := it.Label + "[" + strconv.FormatUint(uint64(n), 10) + "]"
		b.items(place{inner, p.prefix + label + ".", p.uses}, it.Items)
	})
}

// loop goes through the turns of a loop. The scope of a turn may get more names, which the loop's own expressions must not know.
func (b *builder) loop(s *scope, name string, exprs []api.Expr, at int, turn func(inner *scope, n uint32)) {
	n := number(s, &exprs[0])
	for turns := 1; ; turns++ {
		own := s.withNumber(name, n)
		if number(own, &exprs[1]) == 0 {
			return
		}
		if turns > api.MaxTurns {
			fault.Throw(api.FDeep, at)
		}
		count(&b.turns, mostTurns, at)
		turn(s.withNumber(name, n), n)
		n = number(own, &exprs[2])
	}
}

// ifItem lays one of two parts down; both have their names.
func (b *builder) ifItem(p place, it *api.Item) {
	taken := number(p.scope, &it.Value) != 0
	p.scope.put(it.Label, thing{kind: aMark}, it.At)
	if it.HasElse {
		p.scope.put(it.ElseLabel, thing{kind: aMark}, it.At)
	}
	inner := newScope(p.scope)
	if taken {
		b.items(place{inner, p.prefix + it.Label + ".", p.uses}, it.Items)
	} else {
		b.items(place{inner, p.prefix + it.ElseLabel + ".", p.uses}, it.Else)
	}
}

// use lays a module down within another one.
func (b *builder) use(p place, it *api.Item) {
	f, there := b.faces[it.Module]
	if !there {
		fault.Throw(api.FName, it.At)
	}
	p.scope.put(it.Name, thing{kind: aMark}, it.At)
	if p.uses >= api.MaxDeep {
		fault.Throw(api.FDeep, it.At)
	}
	count(&b.uses, mostUses, it.At)
	given := givenParams(p.scope, f, it.Params)
	checkPorts(f, it.Ports)
	laid := b.lay(f.module, given, place{nil, p.prefix + it.Name + ".", p.uses + 1})
	for i := range it.Ports {
		if bind := &it.Ports[i]; bind.Given {
			b.bind(p.scope, laid.names[bind.Name], bind)
		}
	}
}

// givenParams tells the parameters that a use gives.
func givenParams(s *scope, f face, binds []api.Bind) map[string]uint32 {
	given := make(map[string]uint32, len(binds))
	for i := range binds {
		name := binds[i].Name
		_, there := f.params[name]
		if _, twice := given[name]; twice || !there {
			fault.Throw(api.FPort, binds[i].At)
		}
		given[name] = number(s, &binds[i].Value)
	}
	return given
}

// checkPorts looks whether a use binds ports that there are, each but once.
func checkPorts(f face, binds []api.Bind) {
	bound := make(map[string]int, len(binds))
	for i := range binds {
		name := binds[i].Name
		_, there := f.ports[name]
		bound[name]++
		if !there || bound[name] > 1 {
			fault.Throw(api.FPort, binds[i].At)
		}
	}
}

// bind makes the process of a bound port.
func (b *builder) bind(s *scope, port thing, bind *api.Bind) {
	if port.input {
		to := []api.Dest{{Net: port.net, Width: port.width}}
		b.set(to, look(s, &bind.Value), bind.At)
	} else {
		b.set(target(s, &bind.Value, byAssign), netValue(port), bind.At)
	}
}
