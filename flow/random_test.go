package flow

import (
	"math/rand"
	"reflect"
	"regexp"
	"strings"
	"testing"

	"gatewright/aig"
	"gatewright/aiger"
	"gatewright/api"
	"gatewright/elab"
	"gatewright/lut"
	"gatewright/parse"
	"gatewright/sweep"
	"gatewright/word"
)

// graphOf gives the graph of a module as layer 6 gives it.
func graphOf(t *testing.T, text, top string) api.Graph {
	t.Helper()
	ms, err := parse.Text(text)
	if err != nil {
		t.Fatal(err, text)
	}
	d, err := elab.Design(ms, top)
	if err != nil {
		t.Fatal(err, text)
	}
	n, err := word.Lower(d)
	if err != nil {
		t.Fatal(err, text)
	}
	g, err := aig.Blast(n)
	if err != nil {
		t.Fatal(err, text)
	}
	return g
}

// leastOf is the least shape on which by the last words of the chapter a module must fit.
func leastOf(t *testing.T, text, top string) api.Shape {
	t.Helper()
	g := sweep.Graph(graphOf(t, text, top))
	return api.Shape{
		Inputs:  g.Inputs,
		Outputs: len(g.Outputs),
		Regs:    len(g.Latches),
		Rows:    max(1, g.Inputs+len(g.Latches)+3*len(g.Ands)+len(g.Outputs)),
		Cols:    max(1, lut.Depth(lut.Map(g))),
	}
}

// TestRandom: what a text means, the fabric shows, in every order of events, on each shape that must do.
func TestRandom(t *testing.T) {
	m := &maker{Rand: rand.New(rand.NewSource(31))}
	shown := 0
	for range 300 {
		text := m.text()
		s := leastOf(t, text, "m")
		if s.Rows > 500 {
			continue
		}
		shown++
		for _, cols := range []int{s.Cols, 100} {
			s.Cols = cols
			trace := m.trace(12)
			got, err := Play(text, "m", s, trace)
			if err != nil {
				t.Fatalf("%v: %+v: %s", err, s, text)
			}
			for range 4 {
				want, err := Simulate(text, "m", trace, m.order())
				if err != nil || !reflect.DeepEqual(got, want) {
					t.Fatalf("%v, want %v, %v: trace %v: %s", got, want, err, trace, text)
				}
			}
		}
	}
	if shown < 250 {
		t.Errorf("only %d texts", shown)
	}
}

// TestChain: a graph that is hashed, cleaned, written, read, swept and mapped shows the same as the text.
func TestChain(t *testing.T) {
	m := &maker{Rand: rand.New(rand.NewSource(33))}
	for range 100 {
		text := m.text()
		g := aig.Clean(aig.Hash(graphOf(t, text, "m")))
		g, err := aiger.Parse(aiger.Print(g))
		hold(t, "Parse", err, nil)
		g, err = aiger.Unpack(aiger.Pack(g))
		hold(t, "Unpack", err, nil)
		net := lut.Map(sweep.Graph(g))
		trace := m.trace(12)
		want, err := Simulate(text, "m", trace, m.order())
		hold(t, "Simulate", err, nil)
		bits := spelledAll(trace, []int{3, 1, 2})
		widths := outputWidths(text)
		for _, rows := range [][][]bool{aig.Run(g, bits), lut.Run(net, bits)} {
			if got := wordsOfAll(rows, widths); !reflect.DeepEqual(got, want) {
				t.Fatalf("%v, want %v: trace %v: %s", got, want, trace, text)
			}
		}
	}
}

// outputWidths reads the widths of the outputs of a maker's module m.
func outputWidths(text string) []int {
	var widths []int
	ports := text[strings.Index(text, "module m ("):]
	for _, found := range regexp.MustCompile(`output (?:reg )?\[(\d):0\]`).FindAllStringSubmatch(ports, -1) {
		widths = append(widths, int(found[1][0]-'0')+1)
	}
	return widths
}

// spoilt gives a text in which some tokens stand where others of their kind stood: names, numbers, or anything.
func (m *maker) spoilt(text string) string {
	tokens := regexp.MustCompile(`[a-z]\w*|\d+('\w+)?|\S|\s+`).FindAllString(text, -1)
	kind := func(token string) int {
		switch {
		case token[0] >= 'a' && token[0] <= 'z':
			return 0
		case token[0] >= '0' && token[0] <= '9':
			return 1
		}
		return 2
	}
	for range 1 + m.Intn(2) {
		at := m.Intn(len(tokens))
		by := tokens[m.Intn(len(tokens))]
		for m.Intn(50) > 0 && kind(by) != kind(tokens[at]) {
			by = tokens[m.Intn(len(tokens))]
		}
		tokens[at] = by
	}
	return strings.Join(tokens, "")
}

// TestSpoilt: of texts in which something may be wrong, each call ends; and what Build makes bytes of does what the text means.
func TestSpoilt(t *testing.T) {
	m := &maker{Rand: rand.New(rand.NewSource(32))}
	wrong, whole := map[int]int{}, 0
	for range 3000 {
		text := m.spoilt(m.text())
		trace := m.trace(6)
		got, err := Play(text, "m", room, trace)
		bytes, same := Build(text, "m", room)
		if !reflect.DeepEqual(err, same) || (bytes == nil) != (err != nil) {
			t.Fatalf("Play %v, Build %v: %s", err, same, text)
		}
		want, simulated := Simulate(text, "m", trace, m.order())
		code, _ := api.Code(err)
		if code != 0 {
			wrong[code]++
			// These texts are too small for FBig, so all ahead of FDrive are faults of layers 1 and 2.
			if other, _ := api.Code(simulated); code < api.FDrive && !reflect.DeepEqual(err, simulated) || code >= api.FDrive && other != 0 && other != api.FLoop {
				t.Fatalf("Build %v, Simulate %v: %s", err, simulated, text)
			}
			continue
		}
		whole++
		if simulated != nil || !reflect.DeepEqual(got, want) {
			t.Fatalf("%v, want %v, %v: trace %v: %s", got, want, simulated, trace, text)
		}
	}
	if len(wrong) < 10 || whole < 300 {
		t.Errorf("wrong: %v, whole: %d", wrong, whole)
	}
}
