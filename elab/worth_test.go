package elab

import (
	"fmt"
	"math/rand"
	"reflect"
	"strings"
	"testing"

	"gatewright/api"
)

// frame declares what random processes read and set.
const frame = `module m (input [3:0] a, input b, input [7:0] c, input [31:0] d, input [12:0] e, output [6:0] o0, output [31:0] o1, output o2, output [2:0] o3);
localparam P = 5; localparam Q = 4294967290; localparam Z = 0;
reg [5:0] r [0:4]; reg [31:0] h [0:9]; reg k [0:1]; reg [4:0] s; reg t; reg [31:0] z; reg [10:0] y;
`

// maker makes random texts.
type maker struct {
	*rand.Rand
	loops []string
}

var (
	nets   = []string{"a", "b", "c", "d", "e", "s", "t", "z", "y"}
	widths = map[string]int{"a": 4, "b": 1, "c": 8, "d": 32, "e": 13, "s": 5, "t": 1, "z": 32, "y": 11, "r": 6, "h": 32, "k": 1}
	regs   = []string{"s", "t", "z", "y"}
	words  = map[string]int{"r": 5, "h": 10, "k": 2}
	consts = map[string]uint32{"P": 5, "Q": 4294967290, "Z": 0}
)

func pick[T any](m *maker, all []T) T {
	return all[m.Intn(len(all))]
}

// narrow makes an expression whose width is small, to stand in braces.
func (m *maker) narrow(deep int) string {
	switch n := m.Intn(9); {
	case deep <= 0 || n == 0:
		return pick(m, []string{"a", "b", "s", "t", "2'd3", "1'b1", "4'ha", "k[b]", "k[0]"})
	case n == 1:
		return m.partOf(pick(m, nets), 4)
	case n == 2:
		return "(" + pick(m, []string{"!", "&", "|", "^"}) + m.operand(deep-1) + ")"
	case n == 3:
		return "(" + m.operand(deep-1) + pick(m, []string{"==", "!=", "<", "<=", ">", ">=", "&&", "||"}) + m.operand(deep-1) + ")"
	case n == 4:
		return "{" + m.narrow(deep-2) + ", " + m.narrow(deep-2) + "}"
	case n == 5:
		return "{" + pick(m, []string{"1", "2", "3", "P - 3"}) + "{" + m.narrow(deep-2) + "}}"
	case n == 6:
		return pick(m, []string{"~", "-"}) + m.narrow(deep-1)
	case n == 7:
		return "(" + m.narrow(deep-1) + pick(m, []string{"+", "-", "*", "&", "|", "^", "<<", ">>"}) + m.narrow(deep-1) + ")"
	}
	return pick(m, nets) + "[" + m.expr(deep-1) + "]"
}

// partOf makes a bit or a part of a net that is known ahead.
func (m *maker) partOf(net string, most int) string {
	lo := m.Intn(widths[net])
	hi := lo + m.Intn(min(most, widths[net]-lo))
	switch m.Intn(3) {
	case 0:
		return fmt.Sprintf("%s[%d]", net, lo)
	case 1:
		return fmt.Sprintf("%s[P + %d - P:8'd%d]", net, hi, lo)
	}
	return fmt.Sprintf("%s[%d:%d]", net, hi, lo)
}

func (m *maker) operand(deep int) string {
	return "(" + m.expr(deep) + ")"
}

func (m *maker) leaf() string {
	all := append([]string{"0", "1", "7", "4294967295", "3'd5", "32'hfffffff0", "1'd0", "P", "Q", "Z"}, nets...)
	return pick(m, append(all, m.loops...))
}

func (m *maker) expr(deep int) string {
	if deep <= 0 {
		return m.leaf()
	}
	switch m.Intn(8) {
	case 0:
		return pick(m, []string{"~", "!", "-", "&", "|", "^"}) + m.operand(deep-1)
	case 1, 2, 3:
		return m.operand(deep-1) + pick(m, []string{"+", "-", "*", "&", "|", "^", "<<", ">>", "==", "!=", "<", "<=", ">", ">=", "&&", "||"}) + m.operand(deep-1)
	case 4:
		return m.operand(deep-1) + " ? " + m.operand(deep-1) + " : " + m.operand(deep-1)
	case 5:
		return pick(m, []string{"r", "h", "k"}) + "[" + m.expr(deep-1) + "]"
	case 6:
		return m.narrow(deep)
	}
	return m.leaf()
}

// target makes what is set in a process.
func (m *maker) target(later bool) string {
	reg := pick(m, regs)
	switch n := m.Intn(7); {
	case n == 0 && later:
		return pick(m, []string{"r[", "h[", "k["}) + m.expr(2) + "]"
	case n == 1:
		return m.partOf(reg, 32)
	case n == 2:
		return reg + "[" + m.expr(2) + "]"
	case n == 3:
		return "{" + m.target(later) + ", " + m.target(later) + "}"
	}
	return reg
}

func (m *maker) stmt(deep int) string {
	kind := m.Intn(8)
	if deep <= 0 {
		kind = 7
	}
	switch kind {
	case 0:
		return "begin " + m.stmt(deep-1) + " " + m.stmt(deep-1) + " end"
	case 1:
		return "if (" + m.expr(3) + ") begin " + m.stmt(deep-1) + " end"
	case 2:
		return "if (" + m.expr(2) + ") begin " + m.stmt(deep-1) + " end else " + m.stmt(deep-1)
	case 3, 4:
		return m.caseStmt(deep)
	case 5:
		name := pick(m, []string{"i", "j", "z"})
		held := m.loops
		m.loops = append(append([]string{}, held...), name)
		body := m.stmt(deep - 1)
		m.loops = held
		return fmt.Sprintf("for (%s = %d; %s != 3; %s = %s + 1) %s", name, m.Intn(4), name, name, name, body)
	case 6:
		return ";"
	}
	later := m.Intn(2) == 0
	sign := " = "
	if later {
		sign = " <= "
	}
	return m.target(later) + sign + m.expr(3) + ";"
}

func (m *maker) caseStmt(deep int) string {
	text := "case (" + m.expr(2) + ") "
	arms := m.Intn(4)
	without := m.Intn(8)
	for i := range arms + 1 {
		if i == without {
			text += "default: " + m.stmt(deep-1) + " "
		}
		if i == arms {
			break
		}
		text += m.expr(1)
		for m.Intn(3) == 0 {
			text += ", " + m.expr(1)
		}
		text += ": " + m.stmt(deep-1) + " "
	}
	return text + "endcase"
}

// state is what nets and memories are worth.
type state struct {
	nets map[string]uint64
	mems map[string][]uint64
}

// bit is a bit of a net, or (-1) a memory.
type bit struct {
	name string
	at   int
}

// teller works trees out as the document tells it: what they are worth in a state, and which bits they read and set.
type teller struct {
	state
	known        map[string]uint32
	reads        map[bit]bool
	now, delayed map[bit]bool
	kept         []func()
}

func mask(w int) uint64 { return 1<<w - 1 }

// constant works out a number that is known ahead.
func (r *teller) constant(e api.Expr) (uint32, bool) {
	var x []uint32
	for _, a := range e.Args {
		n, ok := r.constant(a)
		if !ok {
			return 0, false
		}
		x = append(x, n)
	}
	truth := func(b bool) (uint32, bool) {
		if b {
			return 1, true
		}
		return 0, true
	}
	switch e.Kind {
	case api.ENum:
		return uint32(e.Num), true
	case api.EName:
		n, ok := r.known[e.Name]
		return n, ok
	case api.ECond:
		if x[0] != 0 {
			return x[1], true
		}
		return x[2], true
	case api.EUnary:
		switch e.Op {
		case api.OpNot:
			return ^x[0], true
		case api.OpMinus:
			return -x[0], true
		case api.OpNo:
			return truth(x[0] == 0)
		}
		return 0, false
	case api.EBinary:
		a, b := uint64(x[0]), uint64(x[1])
		switch e.Op {
		case api.OpBoth:
			return truth(a != 0 && b != 0)
		case api.OpOne:
			return truth(a != 0 || b != 0)
		case api.OpLt, api.OpLe, api.OpGt, api.OpGe, api.OpEq, api.OpNe:
			return truth(compared(e.Op, a, b))
		}
		return uint32(combined(e.Op, a, b, 32)), true
	}
	return 0, false
}

func compared(op int, a, b uint64) bool {
	return map[int]bool{api.OpLt: a < b, api.OpLe: a <= b, api.OpGt: a > b, api.OpGe: a >= b, api.OpEq: a == b, api.OpNe: a != b}[op]
}

// combined works an operation out in w bits.
func combined(op int, a, b uint64, w int) uint64 {
	switch op {
	case api.OpMul:
		a *= b
	case api.OpAdd:
		a += b
	case api.OpSub:
		a -= b
	case api.OpShl:
		for ; b > 0 && a != 0; b-- {
			a = a * 2 & mask(w)
		}
	case api.OpShr:
		for ; b > 0 && a != 0; b-- {
			a /= 2
		}
	case api.OpAnd:
		a &= b
	case api.OpXor:
		a ^= b
	case api.OpOr:
		a |= b
	default:
		panic("no operation")
	}
	return a & mask(w)
}

// width is that of an expression by itself.
func (r *teller) width(e api.Expr) int {
	switch e.Kind {
	case api.ENum:
		if e.Width == 0 {
			return 32
		}
		return e.Width
	case api.EName:
		if _, ok := r.known[e.Name]; ok {
			return 32
		}
		return widths[e.Name]
	case api.EIndex:
		if words[e.Name] > 0 {
			return widths[e.Name]
		}
		return 1
	case api.EPart:
		hi, _ := r.constant(e.Args[0])
		lo, _ := r.constant(e.Args[1])
		return int(hi - lo + 1)
	case api.EUnary:
		if e.Op == api.OpNot || e.Op == api.OpMinus {
			return r.width(e.Args[0])
		}
		return 1
	case api.EBinary:
		switch e.Op {
		case api.OpShl, api.OpShr:
			return r.width(e.Args[0])
		case api.OpMul, api.OpAdd, api.OpSub, api.OpAnd, api.OpXor, api.OpOr:
			return max(r.width(e.Args[0]), r.width(e.Args[1]))
		}
		return 1
	case api.ECond:
		return max(r.width(e.Args[1]), r.width(e.Args[2]))
	case api.EConcat:
		sum := 0
		for _, a := range e.Args {
			sum += r.width(a)
		}
		return sum
	}
	n, _ := r.constant(e.Args[0])
	return int(n) * r.width(e.Args[1])
}

// own works an expression out at its own width.
func (r *teller) own(e api.Expr) uint64 {
	return r.worth(e, r.width(e))
}

func (r *teller) read(name string, lo, width int) {
	for i := range width {
		r.reads[bit{name, lo + i}] = true
	}
}

func one(holds bool) uint64 {
	if holds {
		return 1
	}
	return 0
}

// worth works an expression out at a width. All operands are gone through, so that all reads are told.
func (r *teller) worth(e api.Expr, w int) uint64 {
	switch e.Kind {
	case api.ENum:
		return e.Num
	case api.EName:
		if n, ok := r.known[e.Name]; ok {
			return uint64(n)
		}
		r.read(e.Name, 0, widths[e.Name])
		return r.nets[e.Name]
	case api.EPart:
		hi, _ := r.constant(e.Args[0])
		lo, _ := r.constant(e.Args[1])
		r.read(e.Name, int(lo), int(hi-lo)+1)
		return r.nets[e.Name] >> lo & mask(int(hi-lo)+1)
	case api.EIndex:
		return r.indexed(e)
	case api.EUnary:
		switch e.Op {
		case api.OpNot:
			return ^r.worth(e.Args[0], w) & mask(w)
		case api.OpMinus:
			return -r.worth(e.Args[0], w) & mask(w)
		}
		x := r.own(e.Args[0])
		odd := false
		for y := x; y != 0; y /= 2 {
			odd = odd != (y%2 == 1)
		}
		return one(map[int]bool{api.OpNo: x == 0, api.OpAll: x == mask(r.width(e.Args[0])), api.OpAny: x != 0, api.OpOdd: odd}[e.Op])
	case api.EBinary:
		return r.binary(e, w)
	case api.ECond:
		c, x, y := r.own(e.Args[0]), r.worth(e.Args[1], w), r.worth(e.Args[2], w)
		if c != 0 {
			return x
		}
		return y
	case api.EConcat:
		sum := uint64(0)
		for _, a := range e.Args {
			sum = sum<<r.width(a) | r.own(a)
		}
		return sum
	}
	n, _ := r.constant(e.Args[0])
	sum := uint64(0)
	for range n {
		sum = sum<<r.width(e.Args[1]) | r.own(e.Args[1])
	}
	return sum
}

func (r *teller) binary(e api.Expr, w int) uint64 {
	x, y := e.Args[0], e.Args[1]
	switch e.Op {
	case api.OpBoth:
		a, b := r.own(x), r.own(y)
		return one(a != 0 && b != 0)
	case api.OpOne:
		a, b := r.own(x), r.own(y)
		return one(a != 0 || b != 0)
	case api.OpShl, api.OpShr:
		return combined(e.Op, r.worth(x, w), r.own(y), w)
	case api.OpLt, api.OpLe, api.OpGt, api.OpGe, api.OpEq, api.OpNe:
		both := max(r.width(x), r.width(y))
		return one(compared(e.Op, r.worth(x, both), r.worth(y, both)))
	}
	return combined(e.Op, r.worth(x, w), r.worth(y, w), w)
}

func (r *teller) indexed(e api.Expr) uint64 {
	n, ok := r.constant(e.Args[0])
	at := uint64(n)
	if !ok {
		at = r.own(e.Args[0])
	}
	if words[e.Name] > 0 {
		r.reads[bit{e.Name, -1}] = true
		if at >= uint64(words[e.Name]) {
			return 0
		}
		return r.mems[e.Name][at]
	}
	if ok {
		r.read(e.Name, int(n), 1)
	} else {
		r.read(e.Name, 0, widths[e.Name])
	}
	if at >= uint64(widths[e.Name]) {
		return 0
	}
	return r.nets[e.Name] >> at & 1
}

// aim tells how to set a target, and how wide it is.
func (r *teller) aim(e api.Expr, sets map[bit]bool) (int, func(uint64)) {
	mark := func(lo, width int) {
		for i := range width {
			sets[bit{e.Name, lo + i}] = true
		}
	}
	put := func(lo, width int) func(uint64) {
		return func(v uint64) {
			r.nets[e.Name] = r.nets[e.Name]&^(mask(width)<<lo) | v<<lo
		}
	}
	switch e.Kind {
	case api.EName:
		mark(0, widths[e.Name])
		return widths[e.Name], put(0, widths[e.Name])
	case api.EPart:
		hi, _ := r.constant(e.Args[0])
		lo, _ := r.constant(e.Args[1])
		mark(int(lo), int(hi-lo)+1)
		return int(hi-lo) + 1, put(int(lo), int(hi-lo)+1)
	case api.EConcat:
		var ws []int
		var fs []func(uint64)
		sum := 0
		for _, a := range e.Args {
			w, f := r.aim(a, sets)
			ws, fs, sum = append(ws, w), append(fs, f), sum+w
		}
		return sum, func(v uint64) {
			left := sum
			for i, f := range fs {
				left -= ws[i]
				f(v >> left & mask(ws[i]))
			}
		}
	}
	n, ok := r.constant(e.Args[0])
	at := uint64(n)
	if !ok {
		at = r.own(e.Args[0])
	}
	nothing := func(uint64) {}
	switch {
	case words[e.Name] > 0:
		sets[bit{e.Name, -1}] = true
		if at >= uint64(words[e.Name]) {
			return widths[e.Name], nothing
		}
		return widths[e.Name], func(v uint64) { r.mems[e.Name][at] = v }
	case ok:
		mark(int(n), 1)
	default:
		mark(0, widths[e.Name])
	}
	if at >= uint64(widths[e.Name]) {
		return 1, nothing
	}
	return 1, put(int(at), 1)
}

// stmt runs a statement; what is not run is gone through all the same, for what it reads and sets.
func (r *teller) stmt(s api.Stmt, runs bool) {
	switch s.Kind {
	case api.SBlock:
		for _, x := range s.Stmts {
			r.stmt(x, runs)
		}
	case api.SIf:
		c := r.own(s.Exprs[0]) != 0
		r.stmt(s.Stmts[0], runs && c)
		if len(s.Stmts) > 1 {
			r.stmt(s.Stmts[1], runs && !c)
		}
	case api.SCase:
		r.caseStmt(s, runs)
	case api.SFor:
		held, there := r.known[s.Name]
		n, _ := r.constant(s.Exprs[0])
		for {
			r.known[s.Name] = n
			if c, _ := r.constant(s.Exprs[1]); c == 0 {
				break
			}
			r.stmt(s.Stmts[0], runs)
			n, _ = r.constant(s.Exprs[2])
		}
		delete(r.known, s.Name)
		if there {
			r.known[s.Name] = held
		}
	case api.SSet:
		sets := r.now
		if s.Later {
			sets = r.delayed
		}
		w, _ := r.aim(s.Exprs[0], sets)
		v := r.worth(s.Exprs[1], max(w, r.width(s.Exprs[1]))) & mask(w)
		_, set := r.aim(s.Exprs[0], sets)
		if runs && s.Later {
			r.kept = append(r.kept, func() { set(v) })
		} else if runs {
			set(v)
		}
	}
}

func (r *teller) caseStmt(s api.Stmt, runs bool) {
	w := r.width(s.Exprs[0])
	labels := 0
	for _, a := range s.Arms {
		for _, l := range a.Labels {
			labels++
			w = max(w, r.width(l))
		}
	}
	x := uint64(0)
	if labels > 0 {
		x = r.worth(s.Exprs[0], w)
	}
	taken := -1
	for i, a := range s.Arms {
		for _, l := range a.Labels {
			if r.worth(l, w) == x && taken < 0 {
				taken = i
			}
		}
	}
	for i, a := range s.Arms {
		if a.Default && taken < 0 {
			taken = i
		}
	}
	// What is taken runs behind all the others, which do nothing.
	for i, a := range s.Arms {
		if i != taken {
			r.stmt(a.Body, false)
		}
	}
	if taken >= 0 {
		r.stmt(s.Arms[taken].Body, runs)
	}
}

// runner runs the acts of a design.
type runner struct {
	d            api.Design
	nets         []uint64
	mems         [][]uint64
	reads        map[bit]bool
	now, delayed map[bit]bool
	kept         []func()
}

func (r *runner) note(in map[bit]bool, net, lo, width int) {
	n := r.d.Nets[net]
	if n.Words > 0 {
		in[bit{n.Name, -1}] = true
		return
	}
	for i := range width {
		in[bit{n.Name, lo + i}] = true
	}
}

func (r *runner) exp(x api.Exp) uint64 {
	if x.Kind == api.XSlice && x.Args[0].Kind == api.XNet {
		r.note(r.reads, x.Args[0].Net, int(x.Num), x.Width)
		return r.nets[x.Args[0].Net] >> x.Num & mask(x.Width)
	}
	var a []uint64
	for _, y := range x.Args {
		a = append(a, r.exp(y))
	}
	v := uint64(0)
	switch x.Kind {
	case api.XNum:
		v = x.Num
	case api.XNet:
		r.note(r.reads, x.Net, 0, x.Width)
		v = r.nets[x.Net]
	case api.XWord:
		r.note(r.reads, x.Net, 0, 0)
		if a[0] < uint64(r.d.Nets[x.Net].Words) {
			v = r.mems[x.Net][a[0]]
		}
	case api.XBit:
		r.note(r.reads, x.Net, 0, r.d.Nets[x.Net].Width)
		if a[0] < uint64(r.d.Nets[x.Net].Width) {
			v = r.nets[x.Net] >> a[0] & 1
		}
	case api.XSlice:
		v = a[0] >> x.Num
	case api.XExt:
		v = a[0]
	case api.XCat:
		for i, y := range x.Args {
			v = v<<y.Width | a[i]
		}
	case api.XNot:
		v = ^a[0]
	case api.XAll:
		v = one(a[0] == mask(x.Args[0].Width))
	case api.XAny:
		v = one(a[0] != 0)
	case api.XOdd:
		for y := a[0]; y != 0; y /= 2 {
			v ^= y & 1
		}
	case api.XEq:
		v = one(a[0] == a[1])
	case api.XLt:
		v = one(a[0] < a[1])
	case api.XIf:
		v = a[2]
		if a[0] != 0 {
			v = a[1]
		}
	default:
		op := map[int]int{api.XAnd: api.OpAnd, api.XOr: api.OpOr, api.XXor: api.OpXor, api.XAdd: api.OpAdd, api.XSub: api.OpSub, api.XMul: api.OpMul, api.XShl: api.OpShl, api.XShr: api.OpShr}[x.Kind]
		v = combined(op, a[0], a[1], x.Width)
	}
	return v & mask(x.Width)
}

func (r *runner) acts(acts []api.Act, runs bool) {
	for _, a := range acts {
		if a.Kind == api.AIf {
			c := r.exp(a.If) != 0
			r.acts(a.Then, runs && c)
			r.acts(a.Else, runs && !c)
			continue
		}
		set := r.aim(a, r.exp(a.Value))
		if runs && a.Later {
			r.kept = append(r.kept, set)
		} else if runs {
			set()
		}
	}
}

func (r *runner) aim(a api.Act, v uint64) func() {
	sets := r.now
	if a.Later {
		sets = r.delayed
	}
	var all []func()
	left := a.Value.Width
	for _, d := range a.To {
		left -= d.Width
		part := v >> left & mask(d.Width)
		n := r.d.Nets[d.Net]
		lo := uint64(d.Lo)
		if d.Dyn {
			lo = r.exp(d.Index)
			r.note(sets, d.Net, 0, n.Width)
			if n.Words > 0 && lo >= uint64(n.Words) || n.Words == 0 && lo >= uint64(n.Width) {
				continue
			}
		} else {
			r.note(sets, d.Net, d.Lo, d.Width)
		}
		if n.Words > 0 {
			all = append(all, func() { r.mems[d.Net][lo] = part })
		} else {
			all = append(all, func() { r.nets[d.Net] = r.nets[d.Net]&^(mask(d.Width)<<lo) | part<<lo })
		}
	}
	return func() {
		for _, f := range all {
			f()
		}
	}
}

// start makes the same state for both.
func start(m *maker, d api.Design) (*teller, *runner) {
	r := &runner{d: d, reads: map[bit]bool{}, now: map[bit]bool{}, delayed: map[bit]bool{}}
	e := &teller{state: state{map[string]uint64{}, map[string][]uint64{}}, known: map[string]uint32{}, reads: map[bit]bool{}, now: map[bit]bool{}, delayed: map[bit]bool{}}
	for k, v := range consts {
		e.known[k] = v
	}
	value := func(w int) uint64 {
		switch m.Intn(4) {
		case 0:
			return uint64(m.Intn(4)) & mask(w)
		case 1:
			return mask(w)
		}
		return m.Uint64() & mask(w)
	}
	for _, n := range d.Nets {
		r.nets = append(r.nets, 0)
		r.mems = append(r.mems, make([]uint64, n.Words))
		last := len(r.nets) - 1
		for i := range n.Words {
			r.mems[last][i] = value(n.Width)
		}
		if n.Words == 0 {
			r.nets[last] = value(n.Width)
		}
		e.nets[n.Name] = r.nets[last]
		e.mems[n.Name] = append([]uint64{}, r.mems[last]...)
	}
	return e, r
}

// compare looks whether both have come to the same.
func compare(t *testing.T, text string, e *teller, r *runner) {
	t.Helper()
	for _, f := range e.kept {
		f()
	}
	for _, f := range r.kept {
		f()
	}
	for i, n := range r.d.Nets {
		if n.Words == 0 && r.nets[i] != e.nets[n.Name] {
			t.Fatalf("%s\n%s is %d, want %d", text, n.Name, r.nets[i], e.nets[n.Name])
		}
		for k := range n.Words {
			if r.mems[i][k] != e.mems[n.Name][k] {
				t.Fatalf("%s\n%s[%d] is %d, want %d", text, n.Name, k, r.mems[i][k], e.mems[n.Name][k])
			}
		}
	}
	if !reflect.DeepEqual(e.reads, r.reads) {
		t.Fatalf("%s\nreads %v, want %v", text, r.reads, e.reads)
	}
	if !reflect.DeepEqual(e.now, r.now) || !reflect.DeepEqual(e.delayed, r.delayed) {
		t.Fatalf("%s\nsets %v, %v, want %v, %v", text, r.now, r.delayed, e.now, e.delayed)
	}
}

// TestProcessesDoWhatTheTextSays runs random processes, as trees and as acts.
func TestProcessesDoWhatTheTextSays(t *testing.T) {
	m := &maker{Rand: rand.New(rand.NewSource(1))}
	built := 0
	for range 12000 {
		text := frame + "always @clk begin " + m.stmt(4) + " " + m.stmt(3) + " end endmodule"
		ms := modules(t, text)
		d, err := Design(ms, "m")
		if err != nil {
			continue
		}
		built++
		checkValid(t, d)
		e, r := start(m, d)
		e.stmt(ms[0].Items[len(ms[0].Items)-1].Body, true)
		r.acts(d.Procs[0].Acts, true)
		compare(t, text, e, r)
		if again := modules(t, text); !reflect.DeepEqual(ms, again) {
			t.Fatal("what was handed over has been changed")
		}
	}
	if built < 4000 {
		t.Errorf("only %d designs", built)
	}
}

// TestAssignsDoWhatTheTextSays: the same of assigns.
func TestAssignsDoWhatTheTextSays(t *testing.T) {
	m := &maker{Rand: rand.New(rand.NewSource(2))}
	for k, w := range map[string]int{"o0": 7, "o1": 32, "o2": 1, "o3": 3} {
		widths[k] = w
	}
	built := 0
	for range 6000 {
		target := pick(m, []string{"o0", "o1", "o2", "o3", "{o0, o3}", "o1[30:7]", "o0[5]", "{o2, o0[6:2], o0[0]}"})
		text := frame + "assign " + target + " = " + m.expr(4) + "; endmodule"
		ms := modules(t, text)
		d, err := Design(ms, "m")
		if err != nil {
			continue
		}
		built++
		checkValid(t, d)
		e, r := start(m, d)
		item := ms[0].Items[len(ms[0].Items)-1]
		e.stmt(api.Stmt{Kind: api.SSet, Exprs: []api.Expr{item.Target, item.Value}}, true)
		r.acts(d.Procs[0].Acts, true)
		compare(t, text, e, r)
	}
	if built < 2000 {
		t.Errorf("only %d designs", built)
	}
}

// TestPorts: bound ports are set as assign does it.
func TestPorts(t *testing.T) {
	m := &maker{Rand: rand.New(rand.NewSource(3))}
	for range 300 {
		expr := m.expr(2)
		text := frame[:len(frame)-1] + "n u (.i(" + expr + "), .q(o1), .v(), .p({o0, o3})); endmodule module n (input [8:0] i, output [15:0] q, input v, output reg [3:0] p); endmodule"
		text = strings.Replace(text, "reg [5:0] r", "wire [8:0] ii; wire [15:0] qq; wire [3:0] pp; reg [5:0] r", 1)
		ms := modules(t, text)
		d, err := Design(ms, "m")
		if err != nil {
			continue
		}
		checkValid(t, d)
		if len(d.Procs) != 3 {
			t.Fatalf("%d processes", len(d.Procs))
		}
		twin := strings.Replace(frame, "reg [5:0] r", "wire [8:0] ii; wire [15:0] qq; wire [3:0] pp; reg [5:0] r", 1) + "wire [8:0] i_; wire [15:0] q_; wire v_; wire [3:0] p_; assign i_ = " + expr + "; assign o1 = q_; assign {o0, o3} = p_; endmodule"
		want, err := Design(modules(t, twin), "m")
		if err != nil || !reflect.DeepEqual(want.Procs, d.Procs) {
			t.Fatalf("%s: %v, want %v", text, d.Procs, want.Procs)
		}
	}
}
