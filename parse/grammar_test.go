package parse

import (
	"math/rand"
	"reflect"
	"strings"
	"testing"

	"gatewright/api"
)

// The document's grammar, with the binary operations spelled out.
const grammarText = `
text     = { module } .
module   = "module" NAME [ "#" "(" par { "," par } ")" ] "(" [ port { "," port } ] ")" ";" { item } "endmodule" .
par      = NAME "=" expr .
port     = ( "input" | "output" [ "reg" ] ) [ range ] NAME .
range    = "[" expr ":" expr "]" .
item     = "wire" [ range ] NAME [ "=" expr ] { "," NAME [ "=" expr ] } ";"
         | "reg" [ range ] reg1 { "," reg1 } ";"
         | "localparam" NAME "=" expr ";"
         | "assign" target "=" expr ";"
         | "always" "@" ( "*" | "clk" ) stmt
         | NAME [ "#" "(" given { "," given } ")" ] NAME "(" [ bind { "," bind } ] ")" ";"
         | "for" loop part
         | "if" "(" expr ")" part [ "else" part ] .
reg1     = NAME [ "=" expr | range ] .
given    = "." NAME "(" expr ")" .
bind     = "." NAME "(" [ expr ] ")" .
loop     = "(" NAME "=" expr ";" expr ";" NAME "=" expr ")" .
part     = "begin" ":" NAME { item } "end" .
stmt     = ";" | "begin" { stmt } "end"
         | "if" "(" expr ")" stmt [ "else" stmt ]
         | "case" "(" expr ")" { arm } "endcase"
         | "for" loop stmt
         | target ( "=" | "<=" ) expr ";" .
arm      = "default" [ ":" ] stmt | expr { "," expr } ":" stmt .
target   = place | "{" target { "," target } "}" .
place    = NAME [ "[" expr [ ":" expr ] "]" ] .
expr     = binary [ "?" expr ":" expr ] .
binary   = unary { sign unary } .
sign     = "||" | "&&" | "|" | "^" | "&" | "==" | "!=" | "<" | "<=" | ">" | ">=" | "<<" | ">>" | "+" | "-" | "*" .
unary    = ( "~" | "!" | "-" | "&" | "|" | "^" ) unary | primary .
primary  = NUMBER | place | "(" expr ")" | braces .
braces   = "{" expr { "," expr } "}" | "{" expr plain "}" .
plain    = "{" expr { "," expr } "}" .
`

// grammar: of each symbol that is no token its ways; what has none is a token (a word or sign with its quotes).
type grammar struct {
	ways   map[string][][]string
	height map[string]int // of the flattest tree; 0 of a token
	words  []string       // the grammar's own text
	pos    int
	inner  int // how many symbols stand for groups
}

func newGrammar() *grammar {
	g := &grammar{ways: map[string][][]string{}, height: map[string]int{}, words: strings.Fields(grammarText)}
	for g.pos < len(g.words) {
		name := g.words[g.pos]
		g.pos += 2
		g.ways[name] = g.group(".")
	}
	for changed := true; changed; {
		changed = false
		for s, ways := range g.ways {
			for _, way := range ways {
				if h, ok := g.above(way); ok && (g.height[s] == 0 || h < g.height[s]) {
					g.height[s], changed = h, true
				}
			}
		}
	}
	return g
}

func (g *grammar) above(way []string) (int, bool) {
	most := 0
	for _, s := range way {
		if g.ways[s] != nil && g.height[s] == 0 {
			return 0, false
		}
		most = max(most, g.height[s])
	}
	return most + 1, true
}

// group reads ways until a word.
func (g *grammar) group(end string) [][]string {
	ways := [][]string{nil}
	for {
		w := g.words[g.pos]
		g.pos++
		last := len(ways) - 1
		switch {
		case w == end:
			return ways
		case w == "|":
			ways = append(ways, nil)
		case w == "(" || w == "[" || w == "{":
			ways[last] = append(ways[last], g.groupSymbol(w))
		default:
			ways[last] = append(ways[last], w)
		}
	}
}

func (g *grammar) groupSymbol(open string) string {
	g.inner++
	name := "group " + strings.Repeat("i", g.inner)
	ways := g.group(map[string]string{"(": ")", "[": "]", "{": "}"}[open])
	if open == "{" {
		for i := range ways {
			ways[i] = append(ways[i], name)
		}
	}
	if open != "(" {
		ways = append(ways, []string{})
	}
	g.ways[name] = ways
	return name
}

func (g *grammar) mayBeEmpty(symbol string) bool {
	for _, way := range g.ways[symbol] {
		if len(way) == 0 {
			return true
		}
	}
	return false
}

// state of the recognizer: how far a way has been gone, and where it began.
type state struct {
	symbol          string
	way, dot, begin int
}

// firstWrong tells the number of the first token that cannot stand there (how many there are, if the text ends too early); -1: none.
func (g *grammar) firstWrong(tokens []string) int {
	var sets []map[state]bool
	now := map[state]bool{}
	for i := range g.ways["text"] {
		now[state{"text", i, 0, 0}] = true
	}
	for n := 0; ; n++ {
		sets = append(sets, now)
		g.complete(sets, n)
		if n == len(tokens) {
			for i, way := range g.ways["text"] {
				if now[state{"text", i, len(way), 0}] {
					return -1
				}
			}
			return n
		}
		next := map[state]bool{}
		for s := range now {
			if way := g.ways[s.symbol][s.way]; s.dot < len(way) && way[s.dot] == tokens[n] {
				next[state{s.symbol, s.way, s.dot + 1, s.begin}] = true
			}
		}
		if len(next) == 0 {
			return n
		}
		now = next
	}
}

// complete adds to the last set what needs no further token.
func (g *grammar) complete(sets []map[state]bool, n int) {
	var work []state
	add := func(s state) {
		if !sets[n][s] {
			sets[n][s] = true
			work = append(work, s)
		}
	}
	for s := range sets[n] {
		work = append(work, s)
	}
	for len(work) > 0 {
		s := work[len(work)-1]
		work = work[:len(work)-1]
		way := g.ways[s.symbol][s.way]
		if s.dot < len(way) {
			for i := range g.ways[way[s.dot]] {
				add(state{way[s.dot], i, 0, n})
			}
			if g.mayBeEmpty(way[s.dot]) {
				add(state{s.symbol, s.way, s.dot + 1, s.begin})
			}
			continue
		}
		var grown []state
		for b := range sets[s.begin] {
			if w := g.ways[b.symbol][b.way]; b.dot < len(w) && w[b.dot] == s.symbol {
				grown = append(grown, state{b.symbol, b.way, b.dot + 1, b.begin})
			}
		}
		for _, b := range grown {
			add(b)
		}
	}
}

// sentence adds tokens that a symbol stands for, the flattest ones below a depth.
func (g *grammar) sentence(r *rand.Rand, symbol string, depth int, tokens []string) []string {
	ways := g.ways[symbol]
	if ways == nil {
		return append(tokens, symbol)
	}
	if symbol == "expr" { // or little else would be told
		depth = min(depth, 6)
	}
	way := ways[r.Intn(len(ways))]
	if depth <= 0 || len(tokens) > 150 {
		for _, w := range ways {
			h, _ := g.above(w)
			if best, _ := g.above(way); h < best {
				way = w
			}
		}
	}
	for _, s := range way {
		tokens = g.sentence(r, s, depth-1, tokens)
	}
	return tokens
}

// spell writes tokens as a text, and tells where each begins.
func spell(r *rand.Rand, tokens []string) (string, []int) {
	var b strings.Builder
	var places []int
	between := []string{" ", "\n", "\t ", " /* ; */ ", " // )\n"}
	numbers := []string{"0", "7", "12_", "4294967295", "4'hA", "8'b1_1", "32'd9"}
	for _, t := range tokens {
		b.WriteString(between[r.Intn(len(between))])
		places = append(places, b.Len())
		switch t {
		case "NAME":
			t = "n"
		case "NUMBER":
			t = numbers[r.Intn(len(numbers))]
		}
		b.WriteString(strings.Trim(t, `"`))
	}
	return b.String(), append(places, b.Len())
}

// spoil changes some tokens into others, or takes them out, or puts others in.
func spoil(r *rand.Rand, tokens, all []string) []string {
	out := append([]string{}, tokens...)
	for range r.Intn(3) {
		i := r.Intn(len(out) + 1)
		switch other := all[r.Intn(len(all))]; {
		case r.Intn(3) == 0 || i == len(out):
			out = append(out[:i], append([]string{other}, out[i:]...)...)
		case r.Intn(2) == 0:
			out[i] = other
		default:
			out = append(out[:i], out[i+1:]...)
		}
	}
	return out
}

func defaults(tokens []string) int {
	n := 0
	for _, t := range tokens {
		if t == `"default"` {
			n++
		}
	}
	return n
}

// sample gives a text now and then, else a module with some items: most of what there is stands within these.
func sample(g *grammar, r *rand.Rand) []string {
	for {
		tokens := g.sentence(r, "text", 20, nil)
		if r.Intn(4) > 0 {
			tokens = strings.Fields(`"module" NAME "(" ")" ";"`)
			for range 1 + r.Intn(3) {
				tokens = append(tokens, g.sentence(r, "item", 5+r.Intn(20), nil)...)
			}
			tokens = append(tokens, `"endmodule"`)
		}
		if defaults(tokens) < 2 && len(tokens) < 300 {
			return tokens
		}
	}
}

func (g *grammar) tokens() []string {
	var all []string
	met := map[string]bool{}
	for _, w := range g.words {
		if (w[0] == '"' || w == "NAME" || w == "NUMBER") && !met[w] {
			met[w] = true
			all = append(all, w)
		}
	}
	return all
}

// A recognizer that knows the document's grammar alone tells the same faults.
func TestFaultsAreTheGrammars(t *testing.T) {
	g := newGrammar()
	r := rand.New(rand.NewSource(1))
	all := g.tokens()
	for range 3000 {
		tokens := spoil(r, sample(g, r), all)
		if defaults(tokens) > 1 {
			continue
		}
		text, places := spell(r, tokens)
		wrong := g.firstWrong(tokens)
		if wrong >= 0 {
			wantFault(t, text, places[wrong])
			continue
		}
		read(t, text)
	}
}

// withoutPlaces takes out where things stand, of which the printed text has others.
func withoutPlaces(v reflect.Value) {
	switch v.Kind() {
	case reflect.Slice:
		for i := range v.Len() {
			withoutPlaces(v.Index(i))
		}
	case reflect.Struct:
		for i := range v.NumField() {
			if v.Type().Field(i).Name == "At" {
				v.Field(i).SetInt(0)
			}
			withoutPlaces(v.Field(i))
		}
	}
}

// What is printed is read as the same modules, and printed alike; another call gives the same.
func TestPrintedTextsAreReadAgain(t *testing.T) {
	g := newGrammar()
	r := rand.New(rand.NewSource(2))
	for range 3000 {
		text, _ := spell(r, sample(g, r))
		first := read(t, text)
		printed := Print(first)
		second := read(t, printed)
		if again := Print(second); again != printed {
			t.Fatalf("%q is printed as %q", printed, again)
		}
		if !reflect.DeepEqual(first, read(t, text)) {
			t.Fatalf("%q is read otherwise again", text)
		}
		lists(t, reflect.ValueOf(first), map[uintptr]bool{})
		withoutPlaces(reflect.ValueOf(first))
		withoutPlaces(reflect.ValueOf(second))
		if !reflect.DeepEqual(first, second) {
			t.Fatalf("%q is printed as %q", text, printed)
		}
	}
}

// Whatever bytes there are: an answer, or a fault within the text.
func TestAnyBytes(t *testing.T) {
	r := rand.New(rand.NewSource(3))
	g := newGrammar()
	for range 3000 {
		text, _ := spell(r, sample(g, r))
		bytes := []byte(text)
		for range 1 + r.Intn(3) {
			if len(bytes) > 0 {
				bytes[r.Intn(len(bytes))] = byte(r.Intn(256))
			}
		}
		ms, err := Text(string(bytes))
		code, at := api.Code(err)
		if code != 0 && (code != api.FText || at < 0 || at > len(bytes) || ms != nil) {
			t.Errorf("%q: fault %d at %d", bytes, code, at)
		}
	}
}
