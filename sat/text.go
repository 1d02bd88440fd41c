package sat

import (
	"strconv"
	"strings"

	"gatewright/api"
	"gatewright/fault"
)

const mostDigits = 9 // of a number

// reader goes through a text word by word, and throws the first word that cannot stand where it stands.
type reader struct {
	text    string
	from    int  // where what is not yet read begins
	begun   int  // where the last word begins
	isFresh bool // nothing but blanks has been read of this line
}

func read(text string) (f api.Formula, err error) {
	defer func() {
		if thrown := recover(); thrown != nil {
			f, err = api.Formula{}, fault.Of(thrown, api.FText)
		}
	}()
	r := &reader{text: text, isFresh: true}
	return r.formula(), nil
}

func (r *reader) formula() api.Formula {
	r.must(r.word() == "p")
	r.must(r.word() == "cnf")
	f := api.Formula{Vars: r.number()}
	r.must(f.Vars <= mostVars)
	for range r.number() {
		f.Clauses = append(f.Clauses, r.clause(f.Vars))
	}
	r.must(r.word() == "")
	return f
}

// must throws the last word as wrong, unless it is right.
func (r *reader) must(right bool) {
	if !right {
		fault.Throw(api.FText, r.begun)
	}
}

// word takes the next word; behind the last one it is empty.
func (r *reader) word() string {
	r.skip()
	r.begun = r.from
	for r.from < len(r.text) && !strings.Contains(" \t\n", r.text[r.from:r.from+1]) {
		r.from++
	}
	r.isFresh = false
	return r.text[r.begun:r.from]
}

// skip goes to the next word, and past the lines that count as none.
func (r *reader) skip() {
	for r.from < len(r.text) {
		switch c := r.text[r.from]; {
		case c == '\n':
			r.isFresh = true
		case c == '\t':
			r.isFresh = false
		case c == 'c' && r.isFresh:
			line, _, _ := strings.Cut(r.text[r.from:], "\n")
			r.from += len(line)
			continue
		case c != ' ':
			return
		}
		r.from++
	}
}

func (r *reader) number() int {
	word := r.word()
	r.must(isNumber(word))
	return valueOf(word)
}

// clause takes literals, and the 0 behind them.
func (r *reader) clause(vars int) []int {
	list := []int{}
	for {
		word := r.word()
		number, isOpposite := strings.CutPrefix(word, "-")
		r.must(isNumber(number))
		n := valueOf(number)
		r.must(n <= vars && (n > 0 || !isOpposite))
		switch {
		case n == 0:
			return list
		case isOpposite:
			n = -n
		}
		list = append(list, n)
	}
}

// isNumber asks whether a word is a number without a sign.
func isNumber(word string) bool {
	if word == "" || len(word) > mostDigits || len(word) > 1 && word[0] == '0' {
		return false
	}
	for i := range len(word) {
		if word[i] < '0' || word[i] > '9' {
			return false
		}
	}
	return true
}

func valueOf(number string) int {
	value := 0
	for i := range len(number) {
		value = 10*value + int(number[i]-'0')
	}
	return value
}

func write(f api.Formula) string {
	var b strings.Builder
	b.WriteString("p cnf " + strconv.Itoa(f.Vars) + " " + strconv.Itoa(len(f.Clauses)) + "\n")
	for _, c := range f.Clauses {
		for _, n := range c {
			b.WriteString(strconv.Itoa(n))
			b.WriteByte(' ')
		}
		b.WriteString("0\n")
	}
	return b.String()
}
