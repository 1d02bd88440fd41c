package aiger

import (
	"bytes"
	"math/rand"
	"reflect"
	"regexp"
	"strconv"
	"strings"
	"testing"

	"gatewright/api"
)

// told is what a call answers: a graph, or a fault's place (-1: none).
type told struct {
	g  api.Graph
	at int
}

func toldBy(t *testing.T, g api.Graph, err error) told {
	t.Helper()
	if err == nil {
		return told{g, -1}
	}
	code, at := api.Code(err)
	if code != api.FGraph || !reflect.DeepEqual(g, api.Graph{}) {
		t.Fatalf("fault %d, with it %+v", code, g)
	}
	return told{at: at}
}

func TestWrongTexts(t *testing.T) {
	const rightHead = "aag 4 1 1 1 2\n"
	for _, c := range []struct {
		text string
		at   int
	}{
		{"", 1}, {"\n", 1}, {"aag\n", 1}, {"aag \n", 1}, {"aag 0 0 0 0\n", 1}, {"aag 0 0 0 0 0 0\n", 1}, {"aag 0 0 0 0 0 \n", 1},
		{" aag 0 0 0 0 0\n", 1}, {"aag  0 0 0 0 0\n", 1}, {"aag 0 0  0 0 0\n", 1}, {"aag\t0 0 0 0 0\n", 1}, {"aag 0 0 0 0 0\r\n", 1},
		{"aag 0 0 0 0 0", 1}, {"AAG 0 0 0 0 0\n", 1}, {"aagg 0 0 0 0 0\n", 1}, {"aag 0 0 0 0 -0\n", 1}, {"aag 0 0 0 0 +0\n", 1},
		{"aag 0 0 0 00 0\n", 1}, {"aag 0 0 0 01 0\n", 1}, {"aag 0 0 0 0x1 0\n", 1}, {"aag 1000000000 0 0 0 0\n", 1},
		{"aag 0 0 0 1000000000 0\n", 1}, {"aag 18446744073709551616 0 0 0 0\n", 1}, {"aag 1 0 0 0 0\n", 1}, {"aag 0 1 0 0 0\n2\n", 1},
		{"aag 2 1 0 0 0\n2\n", 1}, {"aag 0 0 0 0 0\n\n", 2}, {"aag 0 0 0 0 0\n0\n", 2},
		// inputs
		{"aag 2 2 0 0 0\n4\n2\n", 2}, {"aag 2 2 0 0 0\n2\n2\n", 3}, {"aag 2 2 0 0 0\n2\n", 3}, {"aag 2 2 0 0 0\n2\n4", 3}, {"aag 2 2 0 0 0\n2", 2},
		{"aag 2 2 0 0 0\n3\n4\n", 2}, {"aag 1 1 0 0 0\n02\n", 2}, {"aag 1 1 0 0 0\n2 2\n", 2}, {"aag 1 1 0 0 0\n\n", 2}, {"aag 1 1 0 0 0\n 2\n", 2},
		{"aag 1 1 0 0 0\n2\n4\n", 3}, {"aag 1 1 0 0 0\ni0 a\n", 2}, {"aag 1 1 0 0 0\nc\n2\n", 2},
		// latches
		{"aag 1 0 1 0 0\n2\n", 2}, {"aag 1 0 1 0 0\n4 2\n", 2}, {"aag 1 0 1 0 0\n3 2\n", 2}, {"aag 1 0 1 0 0\n2 4\n", 2}, {"aag 1 0 1 0 0\n2 3 2\n", 2},
		{"aag 1 0 1 0 0\n2 3 00\n", 2}, {"aag 1 0 1 0 0\n2 3 1 0\n", 2}, {"aag 1 0 1 0 0\n2 3 \n", 2}, {"aag 1 0 1 0 0\n2  3\n", 2}, {"aag 1 0 1 0 0\n2 3 1", 2},
		{"aag 2 1 1 0 0\n2\n2 0\n", 3},
		// outputs
		{"aag 0 0 0 1 0\n2\n", 2}, {"aag 0 0 0 2 0\n1\n2\n", 3}, {"aag 0 0 0 1 0\n1 1\n", 2}, {"aag 0 0 0 1 0\n-1\n", 2}, {"aag 0 0 0 1 0\n\n", 2},
		{"aag 0 0 0 1 0\n999999999\n", 2}, {"aag 0 0 0 1 0\n1000000000\n", 2}, {"aag 0 0 0 2 0\n1\n", 3}, {"aag 0 0 0 2 0\n1\n1", 3},
		// gates
		{"aag 1 0 0 0 1\n2 2 0\n", 2}, {"aag 1 0 0 0 1\n2 0 2\n", 2}, {"aag 1 0 0 0 1\n2 3 0\n", 2}, {"aag 1 0 0 0 1\n3 0 0\n", 2}, {"aag 1 0 0 0 1\n2 0\n", 2},
		{"aag 1 0 0 0 1\n2 0 0 0\n", 2}, {"aag 2 0 0 0 2\n4 0 0\n2 0 0\n", 2}, {"aag 2 0 0 0 2\n2 4 0\n4 0 0\n", 2}, {"aag 2 0 0 0 2\n2 0 0\n", 3},
		{rightHead + "2\n4 2\n6\n6 2 4\n8 6 7", 6}, {rightHead + "2\n4 2\n6\n6 2 4\n8 8 7\n", 6}, {rightHead + "2\n4 2\n6\n6 2 6\n8 8 7\n", 5},
		{rightHead + "2\n4 2\n10\n6 2 6\n8 8 7\n", 4}, {rightHead + "2\n2 2\n10\n6 2 6\n8 8 7\n", 3},
		// behind
		{"aag 0 0 0 0 0\nc", 2}, {"aag 0 0 0 0 0\nc \n", 2}, {"aag 0 0 0 0 0\ncc\n", 2}, {"aag 0 0 0 0 0\nC\n", 2}, {"aag 0 0 0 0 0\ni0 a", 2},
		{"aag 0 0 0 0 0\ni0 \n", 2}, {"aag 0 0 0 0 0\ni0\n", 2}, {"aag 0 0 0 0 0\ni a\n", 2}, {"aag 0 0 0 0 0\ni00 a\n", 2}, {"aag 0 0 0 0 0\ni 0 a\n", 2},
		{"aag 0 0 0 0 0\ni1000000000 a\n", 2}, {"aag 0 0 0 0 0\ni-1 a\n", 2}, {"aag 0 0 0 0 0\na0 a\n", 2}, {"aag 0 0 0 0 0\nI0 a\n", 2}, {"aag 0 0 0 0 0\n0 a\n", 2},
		{"aag 0 0 0 0 0\nil0 a\n", 2}, {"aag 0 0 0 0 0\ni0\ta\n", 2}, {"aag 0 0 0 0 0\nl0 a\n\nc\n", 3}, {"aag 0 0 0 0 0\nl0 a\no0 b\nx\nc\n", 4}, {"aag 0 0 0 0 0\nl0 a\nc", 3},
	} {
		g, err := Parse(c.text)
		if got := toldBy(t, g, err); got.at != c.at {
			t.Errorf("Parse(%q): a fault at %d, want %d", c.text, got.at, c.at)
		}
	}
}

func TestWrongBytes(t *testing.T) {
	const one = "aig 2 1 0 0 1\n"        // 14 bytes, a gate with the literal 4
	const wide = "aig 1001 1000 0 0 1\n" // 20 bytes, a gate with the literal 2002
	for _, c := range []struct {
		text string
		at   int
	}{
		{"", 0}, {"aag 0 0 0 0 0\n", 0}, {"aig 0 0 0 0 0", 0}, {"aig 0 0 0 0 00\n", 0}, {"aig 1 0 0 0 0\n", 0}, {"aig 0 0 0 0\n", 0}, {"aig 6001 0 6001 0 0\n", 0},
		// latches and outputs
		{"aig 1 0 1 0 0\n", 14}, {"aig 1 0 1 0 0\n2", 14}, {"aig 1 0 1 0 0\n2 3\n", 14}, {"aig 1 0 1 0 0\n2 2\n", 14}, {"aig 1 0 1 0 0\n2 0 1\n", 14},
		{"aig 1 0 1 0 0\n\n", 14}, {"aig 2 0 2 0 0\n2 1\n6\n", 18}, {"aig 2 0 2 0 0\n2 1\n", 18}, {"aig 2 0 2 0 0\n2 1\n5", 18},
		{"aig 0 0 0 1 0\n2\n", 14}, {"aig 0 0 0 1 0\n1 1\n", 14}, {"aig 0 0 0 2 0\n1\n", 16}, {"aig 0 0 0 2 0\n1\n01\n", 16}, {"aig 1 0 1 1 0\n2 0\n4\n", 18},
		// gates
		{one, 14}, {one + "\x00", 14}, {one + "\x00\x00", 14}, {one + "\x05\x00", 14}, {one + "\x80", 14}, {one + "\x81\x00\x00", 14}, {one + "\x80\x80\x80\x80\x00\x00", 14},
		{one + "\x01\x04", 15}, {one + "\x04\x01", 15}, {one + "\x04", 15}, {one + "\x01\x80", 15}, {one + "\x01\x80\x00", 15}, {one + "\x01\x83\x00", 15},
		{one + "\xff\xff\xff\x7f\x00", 14}, {one + "\x01\xff\xff\xff\x7f", 15}, {one + "\xff\xff\xff\xff\x00\x00", 14},
		{wide + "\xd3\x0f\x00", 20}, {wide + "\xd2\x0f\x01", 22}, {wide + "\x01\xd2\x0f", 21}, {wide + "\x01\xd1\x8f\x00", 21}, {wide + "\xd2\x8f\x80\x00\x00", 20},
		// behind
		{one + "\x01\x00?", 16}, {one + "\x01\x00\n", 16}, {one + "\x01\x00c", 16}, {one + "\x01\x00i0 a", 16}, {one + "\x01\x00i0 a\nx\n", 16}, {one + "\x01\x00i0 a\nl0 b\nc", 16},
		{one + "\x01\x00i0\nc\n", 16}, {"aig 0 0 0 0 0\n\x00", 14}, {"aig 0 0 0 0 0\ni0 a\n\nc\n", 14},
	} {
		g, err := Unpack([]byte(c.text))
		if got := toldBy(t, g, err); got.at != c.at {
			t.Errorf("Unpack(%q): a fault at %d, want %d", c.text, got.at, c.at)
		}
	}
	for _, text := range []string{wide + "\xd2\x0f\x00", wide + "\x01\xd1\x0f", one + "\x04\x00", one + "\x01\x03"} {
		if _, err := Unpack([]byte(text)); err != nil {
			t.Errorf("Unpack(%q): %v", text, err)
		}
	}
}

const number = `(0|[1-9][0-9]{0,8})`

var (
	headLine  = regexp.MustCompile(`^a[ai]g ` + strings.Repeat(number+" ", 4) + number + "\n$")
	one       = regexp.MustCompile("^" + number + "\n$")
	first     = regexp.MustCompile("^" + number + "( [01])?\n$")
	second    = regexp.MustCompile("^" + number + " " + number + "( [01])?\n$")
	three     = regexp.MustCompile("^" + number + " " + number + " " + number + "\n$")
	nameLine  = regexp.MustCompile("(?s)^[ilo]" + number + " [^\n]+\n$")
	behindAll = regexp.MustCompile("(?s)^([ilo]" + number + " [^\n]+\n)*(c\n.*)?$")
)

// values are the numbers that a pattern finds in a line; nil, if the line is none of that kind.
func values(pattern *regexp.Regexp, line string) []int {
	found := pattern.FindStringSubmatch(line)
	if found == nil {
		return nil
	}
	list := []int{}
	for _, f := range found[1:] {
		n, _ := strconv.Atoi(strings.TrimSpace(f))
		list = append(list, n)
	}
	return list
}

func rightHead(word, line string) []int {
	h := values(headLine, line)
	if h == nil || line[:3] != word || h[0] != h[1]+h[2]+h[4] || h[0] > 59999 || h[2] > 6000 || h[3] > 60000 {
		return nil
	}
	return h
}

// textTold tells of a text what Parse should: line by line, as the chapter says.
func textTold(text string) told {
	lines := strings.SplitAfter(text, "\n")
	if lines[len(lines)-1] == "" {
		lines = lines[:len(lines)-1]
	}
	line := func(i int) string { // what is missing is no line of any kind
		if i < len(lines) {
			return lines[i]
		}
		return ""
	}
	h := rightHead("aag", line(0))
	if h == nil {
		return told{at: 1}
	}
	g, at := api.Graph{Inputs: h[1]}, 1
	for v := 1; v <= h[1]; v, at = v+1, at+1 {
		if x := values(one, line(at)); x == nil || x[0] != 2*v {
			return told{at: at + 1}
		}
	}
	for v := 1 + h[1]; v <= h[1]+h[2]; v, at = v+1, at+1 {
		x := values(second, line(at))
		if x == nil || x[0] != 2*v || x[1] > 2*h[0]+1 {
			return told{at: at + 1}
		}
		g.Latches = append(g.Latches, api.Latch{Next: x[1], Init: x[2] == 1})
	}
	for o := 0; o < h[3]; o, at = o+1, at+1 {
		x := values(one, line(at))
		if x == nil || x[0] > 2*h[0]+1 {
			return told{at: at + 1}
		}
		g.Outputs = append(g.Outputs, x[0])
	}
	for v := 1 + h[1] + h[2]; v <= h[0]; v, at = v+1, at+1 {
		x := values(three, line(at))
		if x == nil || x[0] != 2*v || x[1] >= 2*v || x[2] >= 2*v {
			return told{at: at + 1}
		}
		g.Ands = append(g.Ands, [2]int{x[1], x[2]})
	}
	for ; at < len(lines) && lines[at] != "c\n"; at++ {
		if !nameLine.MatchString(lines[at]) {
			return told{at: at + 1}
		}
	}
	return told{g, -1}
}

// bytesTold tells of bytes what Unpack should: its numbers are looked up among all that might stand there.
func bytesTold(b string) told {
	at := 0
	take := func() string {
		line := b[at:]
		if end := strings.IndexByte(line, '\n'); end >= 0 {
			return line[:end+1]
		}
		return line
	}
	head := take()
	h := rightHead("aig", head)
	if h == nil {
		return told{at: 0}
	}
	at += len(head)
	g := api.Graph{Inputs: h[1]}
	for range h[2] {
		line := take()
		x := values(first, line)
		if x == nil || x[0] > 2*h[0]+1 {
			return told{at: at}
		}
		g.Latches = append(g.Latches, api.Latch{Next: x[0], Init: x[1] == 1})
		at += len(line)
	}
	for range h[3] {
		line := take()
		x := values(one, line)
		if x == nil || x[0] > 2*h[0]+1 {
			return told{at: at}
		}
		g.Outputs = append(g.Outputs, x[0])
		at += len(line)
	}
	for v := 1 + h[1] + h[2]; v <= h[0]; v++ {
		less, size := among(b[at:], 1, 2*v)
		if size == 0 {
			return told{at: at}
		}
		at += size
		x := 2*v - less
		less, size = among(b[at:], 0, x)
		if size == 0 {
			return told{at: at}
		}
		at += size
		g.Ands = append(g.Ands, [2]int{x, x - less})
	}
	if !behindAll.MatchString(b[at:]) {
		return told{at: at}
	}
	return told{g, -1}
}

// among is the number from low to high with which bytes begin, and its size; 0, 0: with none.
func among(b string, low, high int) (int, int) {
	for n := low; n <= high; n++ {
		spelled := []byte{byte(n & 127)}
		for m := n >> 7; m > 0; m >>= 7 {
			spelled[len(spelled)-1] |= 128
			spelled = append(spelled, byte(m&127))
		}
		if strings.HasPrefix(b, string(spelled)) {
			return n, len(spelled)
		}
	}
	return 0, 0
}

// behind makes something that stands behind the gates, mostly right.
func behind(r *rand.Rand) string {
	var all string
	for range r.Intn(4) {
		all += []string{"i", "l", "o"}[r.Intn(3)] + strconv.Itoa(r.Intn(12)) + " name\n"
	}
	return all + []string{"", "c\n", "c\nmore", "c\n\n\x80", "c"}[r.Intn(5)]
}

// spoilt changes bytes of what is written at a few places.
func spoilt(r *rand.Rand, b []byte) []byte {
	const likely = "0123456789 \n\x00\x01\x02\x7f\x80\x81ilocag"
	b = bytes.Clone(b)
	for range 1 + r.Intn(2) {
		at := r.Intn(len(b) + 1)
		some := likely[r.Intn(len(likely))]
		switch r.Intn(5) {
		case 0:
			b = append(b[:at:at], append([]byte{some}, b[at:]...)...)
		case 1:
			b = b[:at]
		case 2:
			b = append(b[:at:at], b[min(at+1, len(b)):]...)
		default:
			if at < len(b) {
				b[at] = some
			}
		}
	}
	return b
}

// TestSpoilt: what is right or nearly so, against a second telling of the chapter.
func TestSpoilt(t *testing.T) {
	r := rand.New(rand.NewSource(5))
	right, wrong := 0, 0
	for range 60000 {
		g := grown(r, r.Intn(5), r.Intn(4), r.Intn(6), r.Intn(4))
		if r.Intn(20) == 0 {
			g = grown(r, 50+r.Intn(40), r.Intn(4), 1+r.Intn(6), r.Intn(4))
		}
		more := behind(r)
		text := string(spoilt(r, []byte(Print(g)+more)))
		h, err := Parse(text)
		if got, want := toldBy(t, h, err), textTold(text); !reflect.DeepEqual(got, want) {
			t.Fatalf("Parse(%q): %+v, want %+v", text, got, want)
		}
		if err == nil {
			right++
		} else {
			wrong++
		}
		packed := spoilt(r, append(Pack(g), more...))
		h, err = Unpack(packed)
		if got, want := toldBy(t, h, err), bytesTold(string(packed)); !reflect.DeepEqual(got, want) {
			t.Fatalf("Unpack(%q): %+v, want %+v", packed, got, want)
		}
		if err == nil {
			right++
		} else {
			wrong++
		}
	}
	if right < 10000 || wrong < 10000 {
		t.Errorf("%d right, %d wrong: too few of one kind", right, wrong)
	}
}
