package sim

import "gatewright/api"

// compiler makes the acts of processes ready to run.
type compiler struct {
	nets    []api.Net
	readers [][]int // of each net
	known   map[operands][]expression
	number  int // of the process
	clocked bool
}

// operands are a list in a design, known by where it lies: where many expressions share one list, it is made ready once.
type operands struct {
	first *api.Exp
	count int
}

func (c *compiler) process(p *api.Proc, number int) []act {
	c.number, c.clocked = number, p.Clocked
	c.known = make(map[operands][]expression)
	return c.actList(p.Acts)
}

func (c *compiler) actList(acts []api.Act) []act {
	list := make([]act, len(acts))
	for i := range acts {
		a := &acts[i]
		if a.Kind == api.AIf {
			list[i] = &branch{c.exp(&a.If), c.actList(a.Then), c.actList(a.Else)}
		} else {
			list[i] = &assignment{c.exp(&a.Value), c.targets(a.To), a.Later}
		}
	}
	return list
}

// targets takes them from the last one on: it has the lowest bits.
func (c *compiler) targets(to []api.Dest) []target {
	list := make([]target, len(to))
	lo := 0
	for i := len(to) - 1; i >= 0; i-- {
		list[i] = target{c.placeOf(&to[i]), lo, mask(to[i].Width)}
		lo += to[i].Width
	}
	return list
}

func (c *compiler) placeOf(d *api.Dest) place {
	switch {
	case !d.Dyn:
		return span{d.Net, d.Lo, mask(d.Width)}
	case c.nets[d.Net].Words > 0:
		return someWord{d.Net, c.exp(&d.Index)}
	}
	return someBit{d.Net, c.nets[d.Net].Width, c.exp(&d.Index)}
}

// reads notes that a net stands in the acts of the process.
func (c *compiler) reads(net int) int {
	list := c.readers[net]
	isNoted := len(list) > 0 && list[len(list)-1] == c.number
	if !c.clocked && !isNoted {
		c.readers[net] = append(list, c.number)
	}
	return net
}

// list makes operands ready.
func (c *compiler) list(args []api.Exp) []expression {
	if len(args) == 0 {
		return nil
	}
	key := operands{&args[0], len(args)}
	list := c.known[key]
	if list == nil {
		list = make([]expression, len(args))
		for i := range args {
			list[i] = c.exp(&args[i])
		}
		c.known[key] = list
	}
	return list
}

// exp makes an expression ready.
func (c *compiler) exp(x *api.Exp) expression {
	args := c.list(x.Args)
	switch x.Kind {
	case api.XNum:
		return number(x.Num)
	case api.XNet:
		return wholeNet(c.reads(x.Net))
	case api.XWord:
		return someWord{c.reads(x.Net), args[0]}
	case api.XBit:
		return someBit{c.reads(x.Net), c.nets[x.Net].Width, args[0]}
	case api.XSlice:
		return &cut{args[0], x.Num, mask(x.Width)}
	case api.XExt:
		return &cut{args[0], 0, mask(x.Width)}
	case api.XCat:
		return join(x.Args, args)
	case api.XIf:
		return &choice{args[0], args[1], args[2]}
	case api.XNot, api.XAll, api.XAny, api.XOdd:
		return singleOf(x.Kind, single{args[0], mask(x.Args[0].Width)})
	}
	return pairOf(x.Kind, pair{args[0], args[1], mask(x.Width)})
}

func join(args []api.Exp, parts []expression) expression {
	widths := make([]int, len(args))
	for i := range args {
		widths[i] = args[i].Width
	}
	return &joined{parts, widths}
}

func singleOf(kind int, of single) expression {
	switch kind {
	case api.XNot:
		return &inverse{of}
	case api.XAll:
		return &allOnes{of}
	case api.XAny:
		return &anyOne{of}
	}
	return &oddOnes{of}
}

func pairOf(kind int, of pair) expression {
	switch kind {
	case api.XAnd:
		return &both{of}
	case api.XOr:
		return &either{of}
	case api.XXor:
		return &unlike{of}
	case api.XAdd:
		return &sum{of}
	case api.XSub:
		return &difference{of}
	case api.XMul:
		return &product{of}
	case api.XShl:
		return &shiftedUp{of}
	case api.XShr:
		return &shiftedOff{of}
	case api.XEq:
		return &equal{of}
	}
	return &less{of}
}
