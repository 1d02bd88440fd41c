package aiger

import (
	"strings"

	"gatewright/api"
	"gatewright/fault"
)

const (
	mostDigits = 9   // of a number in a line
	mostPacked = 4   // bytes of a number between gates
	topBit     = 128 // of a byte: more of the number follows
)

// reader goes through a graph that is written, and throws the first fault at what was begun last.
type reader struct {
	layout
	head
	text  string
	from  int // where what is not yet read begins
	lines int // how many have been read
	begun int // the place of what was begun last
}

func read(text string, l layout) (g api.Graph, err error) {
	defer func() {
		if thrown := recover(); thrown != nil {
			g, err = api.Graph{}, fault.Of(thrown, api.FGraph)
		}
	}()
	r := &reader{layout: l, text: text}
	return r.graph(), nil
}

func (r *reader) graph() api.Graph {
	r.readHead()
	g := api.Graph{Inputs: r.head[inputs]}
	if r.layout == asText {
		r.readInputs()
	}
	for i := range r.head[latches] {
		g.Latches = append(g.Latches, r.readLatch(i))
	}
	for range r.head[outputs] {
		g.Outputs = append(g.Outputs, r.readOutput())
	}
	for i := range r.head[gates] {
		g.Ands = append(g.Ands, r.readGate(i))
	}
	r.readBehind()
	return g
}

// begin notes the place of what comes next.
func (r *reader) begin() {
	r.begun = r.from
	if r.layout == asText {
		r.begun = r.lines + 1
	}
}

// must throws what was begun as wrong, unless it is right.
func (r *reader) must(right bool) {
	if !right {
		fault.Throw(api.FGraph, r.begun)
	}
}

// line takes the next line, without its end.
func (r *reader) line() string {
	line, _, ended := strings.Cut(r.text[r.from:], "\n")
	r.must(ended)
	r.from += len(line) + 1
	r.lines++
	return line
}

// numberLine takes a line of numbers, of which there are so many at least, and so many at most.
func (r *reader) numberLine(least, most int) []int {
	r.begin()
	return r.numbersOf(r.line(), least, most)
}

func (r *reader) numbersOf(line string, least, most int) []int {
	words := strings.SplitN(line, " ", most+1)
	r.must(least <= len(words) && len(words) <= most)
	list := make([]int, len(words))
	for i, w := range words {
		r.must(isNumber(w))
		list[i] = valueOf(w)
	}
	return list
}

// isNumber asks whether a word is a number as lines have them.
func isNumber(word string) bool {
	if word == "" || len(word) > mostDigits || len(word) > 1 && word[0] == '0' {
		return false
	}
	for i := range len(word) {
		if word[i] < '0' || word[i] > '9' {
			return false
		}
	}
	return true
}

func valueOf(number string) int {
	value := 0
	for i := range len(number) {
		value = 10*value + int(number[i]-'0')
	}
	return value
}

func (r *reader) readHead() {
	r.begin()
	word, rest, _ := strings.Cut(r.line(), " ")
	r.must(word == r.layout.word())
	copy(r.head[:], r.numbersOf(rest, numbers, numbers))
	r.must(r.head.isRight())
}

func (r *reader) readInputs() {
	for i := range r.head[inputs] {
		list := r.numberLine(1, 1)
		r.must(list[0] == 2*(1+i))
	}
}

// readLatch takes the line of a latch; its own literal stands in texts alone.
func (r *reader) readLatch(i int) api.Latch {
	var list []int
	if r.layout == asText {
		list = r.numberLine(2, 3)
		r.must(list[0] == r.head.latch(i))
		list = list[1:]
	} else {
		list = r.numberLine(1, 2)
	}
	r.must(r.head.hasLiteral(list[0]))
	first := 0
	if len(list) == 2 {
		first = list[1]
	}
	r.must(first <= 1)
	return api.Latch{Next: list[0], Init: first == 1}
}

func (r *reader) readOutput() int {
	list := r.numberLine(1, 1)
	r.must(r.head.hasLiteral(list[0]))
	return list[0]
}

func (r *reader) readGate(i int) [2]int {
	own := r.head.gate(i)
	if r.layout == asBytes {
		greater := own - r.packed(1, own)
		return [2]int{greater, greater - r.packed(0, greater)}
	}
	list := r.numberLine(3, 3)
	r.must(list[0] == own && list[1] < own && list[2] < own)
	return [2]int{list[1], list[2]}
}

// packed takes a number in bytes of seven bits, which is no less and no more than is told.
func (r *reader) packed(least, most int) int {
	r.begin()
	value, scale, isLast := 0, 1, false
	for i := 0; !isLast; i++ {
		r.must(i < mostPacked && r.from < len(r.text))
		b := int(r.text[r.from])
		r.from++
		isLast = b < topBit
		r.must(i == 0 || b > 0)
		value += b % topBit * scale
		scale *= topBit
	}
	r.must(least <= value && value <= most)
	return value
}

// readBehind goes through what stands behind the gates. Its lines have places of their own in texts alone.
func (r *reader) readBehind() {
	r.begin()
	for r.from < len(r.text) {
		if r.layout == asText {
			r.begin()
		}
		line := r.line()
		if line == "c" {
			return
		}
		r.must(isName(line))
	}
}

// isName asks whether a line names an input, a latch or an output.
func isName(line string) bool {
	if line == "" || !strings.Contains("ilo", line[:1]) {
		return false
	}
	number, name, _ := strings.Cut(line[1:], " ")
	return isNumber(number) && name != ""
}
