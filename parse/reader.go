package parse

import (
	"strings"

	"gatewright/api"
	"gatewright/fault"
)

// maxCopies bounds the expressions that are copied for the names of one text: a long range ahead of many names would fill any memory.
const maxCopies = 1 << 20

// reader goes through a text token by token, by the scanner that it embeds; it throws the first fault.
type reader struct {
	scanner
	now    token
	copied int
}

func newReader(text string) *reader {
	r := &reader{scanner: scanner{text: text}}
	r.step()
	return r
}

func (r *reader) step() {
	r.now = r.scan()
}

// fail throws that the token at hand cannot stand where it stands.
func (r *reader) fail() {
	fault.Throw(api.FText, r.now.at)
}

// is asks for a word or a sign.
func (r *reader) is(text string) bool {
	return r.now.kind == tokenFixed && r.now.text == text
}

// take passes over a word or a sign, if it stands there.
func (r *reader) take(text string) bool {
	if !r.is(text) {
		return false
	}
	r.step()
	return true
}

// need passes over a word or a sign that must stand there, and tells where.
func (r *reader) need(text string) int {
	at := r.now.at
	if !r.take(text) {
		r.fail()
	}
	return at
}

// name passes over a name, and tells where it stands. The name is copied: an answer shares nothing with the text.
func (r *reader) name() (string, int) {
	if r.now.kind != tokenName {
		r.fail()
	}
	name, at := strings.Clone(r.now.text), r.now.at
	r.step()
	return name, at
}

// list reads one thing or more, with commas between them.
func list[T any](r *reader, one func(*reader) T) []T {
	all := []T{one(r)}
	for r.take(",") {
		all = append(all, one(r))
	}
	return all
}

// listUntil reads things until a word stands there, and passes over that.
func listUntil[T any](r *reader, word string, one func(*reader) T) []T {
	var all []T
	for !r.take(word) {
		all = append(all, one(r))
	}
	return all
}

// bracketed reads a list in round brackets; it may be empty.
func bracketed[T any](r *reader, one func(*reader) T) []T {
	r.need("(")
	if r.take(")") {
		return nil
	}
	all := list(r, one)
	r.need(")")
	return all
}

// hashed reads `#( .. )` around one thing or more, if it stands there.
func hashed[T any](r *reader, one func(*reader) T) []T {
	if !r.take("#") {
		return nil
	}
	r.need("(")
	all := list(r, one)
	r.need(")")
	return all
}
