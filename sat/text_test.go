package sat

import (
	"math/rand"
	"reflect"
	"regexp"
	"strconv"
	"strings"
	"testing"

	"gatewright/api"
)

func TestParse(t *testing.T) {
	for _, c := range []struct {
		text string
		want api.Formula
	}{
		{"p cnf 0 0", api.Formula{}},
		{"p cnf 100000 0\n", api.Formula{Vars: 100000}},
		{"p cnf 0 1 0", api.Formula{Clauses: [][]int{{}}}},
		{"p cnf 2 3\n1 -2 0\n0\n2 2 -2 0\n", api.Formula{Vars: 2, Clauses: [][]int{{1, -2}, {}, {2, 2, -2}}}},
		{"\n\t p\tcnf\n 3\n\n1\t\t3\n-1 0", api.Formula{Vars: 3, Clauses: [][]int{{3, -1}}}},
		{"c\nc 1 0\np cnf 1 1\n   cnf 7\n1\ncc\n0\nc", api.Formula{Vars: 1, Clauses: [][]int{{1}}}},
		{"p cnf 100000 1 100000 -100000 0", api.Formula{Vars: 100000, Clauses: [][]int{{100000, -100000}}}},
	} {
		f, err := Parse(c.text)
		if err != nil || !reflect.DeepEqual(f, c.want) {
			code, at := api.Code(err)
			t.Errorf("%q: %v, fault %d at %d", c.text, f, code, at)
		}
	}
}

func TestParseWrong(t *testing.T) {
	for _, c := range []struct {
		text string
		at   int
	}{
		{"", 0},
		{" \n\t", 3},
		{"c only a remark", 15},
		{"p", 1},
		{"P cnf 1 0", 0},
		{"pcnf 1 0", 0},
		{"q cnf 1 0", 0},
		{"p cnff 1 0", 2},
		{"p\ncnf 1 0", 9}, // a remark
		{"p c", 2},
		{"p cnf", 5},
		{"p cnf x 0", 6},
		{"p cnf -1 0", 6},
		{"p cnf 00 0", 6},
		{"p cnf +1 0", 6},
		{"p cnf 1000000000 0", 6},
		{"p cnf 100001 0", 6},
		{"p cnf 1 -0", 8},
		{"p cnf 1 01", 8},
		{"p cnf 1 1000000000", 8},
		{"p cnf 1 999999999", 17},
		{"p cnf 1 999999999 1 0 ", 22},
		{"p cnf 1 0 0", 10},
		{"p cnf 1 0\nx", 10},
		{"p cnf 1 0\n\tc", 11}, // no blank stands ahead of it, but a tab
		{"p cnf 1 1 c 0", 10},
		{"p cnf 1 1\n2 0", 10},
		{"p cnf 1 1\n1 -2 0", 12},
		{"p cnf 1 1\n- 1 0", 10},
		{"p cnf 1 1\n--1 0", 10},
		{"p cnf 1 1\n-01 0", 10},
		{"p cnf 1 1\n-0 0", 10},
		{"p cnf 1 1\n00", 10},
		{"p cnf 1 1\n1\r\n0", 10},
		{"p cnf 1 1\n1000000000 0", 10},
		{"p cnf 1 1\n18446744073709551617 0", 10},
		{"p cnf 1 1\n1 0 1", 14},
		{"p cnf 1 2\n1 0\n1", 15},
		{"p cnf 1 1\n1,0", 10},
		{"p cnf 1 1\n1\x000", 10},
		{"p cnf 1 1\n1 0\n%", 14},
	} {
		f, err := Parse(c.text)
		if code, at := api.Code(err); code != api.FText || at != c.at || !reflect.DeepEqual(f, api.Formula{}) {
			t.Errorf("%q: fault %d at %d, want at %d; %v", c.text, code, at, c.at, f)
		}
	}
}

func TestPrint(t *testing.T) {
	for _, c := range []struct {
		f    api.Formula
		want string
	}{
		{api.Formula{}, "p cnf 0 0\n"},
		{api.Formula{Vars: 100000}, "p cnf 100000 0\n"},
		{api.Formula{Vars: 3, Clauses: [][]int{{-3, 1}, {}, {2}, {2, 2, -2}}}, "p cnf 3 4\n-3 1 0\n0\n2 0\n2 2 -2 0\n"},
	} {
		if got := Print(c.f); got != c.want {
			t.Errorf("%v: %q", c.f, got)
		}
	}
}

// faultOf tells the chapter's rules once more: where the first word stands that cannot stand there; -1, if all can.
func faultOf(text string) int {
	lines := strings.SplitAfter(text, "\n")
	for i, line := range lines {
		if strings.HasPrefix(strings.TrimLeft(line, " "), "c") {
			lines[i] = strings.Repeat("\n", len(line))
		}
	}
	vars, clauses, ended := 0, 0, 0
	isOpen := false
	words := regexp.MustCompile(`[^ \t\n]+`).FindAllStringIndex(strings.Join(lines, ""), -1)
	number := regexp.MustCompile(`^(0|[1-9][0-9]{0,8})$`)
	for i, w := range words {
		word := text[w[0]:w[1]]
		n, _ := strconv.Atoi(strings.TrimPrefix(word, "-"))
		isRight := true
		switch i {
		case 0:
			isRight = word == "p"
		case 1:
			isRight = word == "cnf"
		case 2:
			vars = n
			isRight = number.MatchString(word) && n <= 100000
		case 3:
			clauses = n
			isRight = number.MatchString(word)
		default:
			isRight = ended < clauses && number.MatchString(strings.TrimPrefix(word, "-")) && word != "-0" && n <= vars
			isOpen = n != 0
			if n == 0 {
				ended++
			}
		}
		if !isRight {
			return w[0]
		}
	}
	if len(words) < 4 || isOpen || ended < clauses {
		return len(text)
	}
	return -1
}

func randomFormula(r *rand.Rand, vars, clauses, length int) api.Formula {
	f := api.Formula{Vars: vars}
	for range clauses {
		c := []int{}
		for vars > 0 && len(c) < length && r.Intn(length+2) > 0 {
			n := 1 + r.Intn(vars)
			if r.Intn(2) == 0 {
				n = -n
			}
			c = append(c, n)
		}
		f.Clauses = append(f.Clauses, c)
	}
	return f
}

func TestSpoiltTexts(t *testing.T) {
	r := rand.New(rand.NewSource(1))
	pieces := []string{" ", "\n", "\t", "c", "-", "0", "1", "9", "p", "cnf", " 0\n", "\nc", "\n c x", "100000", "\r", "\x00", "é"}
	right := 0
	for range 60000 {
		f := randomFormula(r, r.Intn(12), r.Intn(4), 4)
		text := Print(f)
		for range r.Intn(4) {
			from := r.Intn(len(text) + 1)
			to := min(len(text), from+r.Intn(3))
			text = text[:from] + pieces[r.Intn(len(pieces))] + text[to:]
		}
		want := faultOf(text)
		got, err := Parse(text)
		code, at := api.Code(err)
		if want < 0 && code != 0 || want >= 0 && (code != api.FText || at != want) {
			t.Fatalf("%q: fault %d at %d, want at %d", text, code, at, want)
		}
		if want >= 0 {
			continue
		}
		right++
		again, err := Parse(Print(got))
		if err != nil || !reflect.DeepEqual(again, got) {
			t.Fatalf("%q: printed and read: %v", text, again)
		}
	}
	if right < 10000 {
		t.Errorf("only %d texts were right", right)
	}
}

func TestTextsThereAndBack(t *testing.T) {
	r := rand.New(rand.NewSource(2))
	for range 2000 {
		f := randomFormula(r, 1+r.Intn(100000), 1+r.Intn(6), 8)
		got, err := Parse(Print(f))
		if err != nil || !reflect.DeepEqual(got, f) {
			t.Fatalf("%v: %v", f, got)
		}
	}
}
