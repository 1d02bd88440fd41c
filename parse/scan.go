package parse

import (
	"strings"

	"gatewright/api"
)

// The kinds of tokens.
const (
	tokenEnd    = iota // the text's end
	tokenBad           // bytes that cannot stand anywhere
	tokenName          // text
	tokenNumber        // num, width
	tokenFixed         // a word or a sign of the language: text
)

// tooGreat is the first number that none may reach.
const tooGreat = 1 << 32

// noDigit is above the digits of every base.
const noDigit = 16

type token struct {
	kind, at int
	text     string
	num      uint64
	width    int
}

// scanner cuts a text into tokens, one at a time: what stands behind the first fault is not to be looked at.
type scanner struct {
	text string
	pos  int
}

func (s *scanner) scan() token {
	s.skip()
	if s.pos == len(s.text) {
		return token{kind: tokenEnd, at: s.pos}
	}
	switch c := s.text[s.pos]; {
	case isLetter(c):
		return s.scanName()
	case isDigit(c):
		return s.scanNumber()
	}
	return s.scanSign()
}

// skip passes over blanks and comments. A comment without an end stays: its first byte is no sign, so it makes a bad token.
func (s *scanner) skip() {
	for s.pos < len(s.text) {
		rest := s.text[s.pos:]
		switch {
		case rest[0] == ' ' || rest[0] == '\t' || rest[0] == '\n':
			s.pos++
		case strings.HasPrefix(rest, "//"):
			s.pos += lineLength(rest)
		case strings.HasPrefix(rest, "/*"):
			end := strings.Index(rest[2:], "*/")
			if end < 0 {
				return
			}
			s.pos += 2 + end + 2
		default:
			return
		}
	}
}

func lineLength(text string) int {
	if end := strings.IndexByte(text, '\n'); end >= 0 {
		return end
	}
	return len(text)
}

func (s *scanner) scanName() token {
	start := s.pos
	for s.pos < len(s.text) && (isLetter(s.text[s.pos]) || isDigit(s.text[s.pos])) {
		s.pos++
	}
	text := s.text[start:s.pos]
	switch {
	case isWord(text):
		return token{kind: tokenFixed, at: start, text: text}
	case len(text) > api.MaxName:
		return token{kind: tokenBad, at: start}
	}
	return token{kind: tokenName, at: start, text: text}
}

func (s *scanner) scanNumber() token {
	start := s.pos
	first, _ := s.digits(10)
	if s.peek() == '\'' {
		return s.scanSized(start, first)
	}
	if first >= tooGreat {
		return token{kind: tokenBad, at: start}
	}
	return token{kind: tokenNumber, at: start, num: first}
}

// scanSized goes on at the ' behind a number's width.
func (s *scanner) scanSized(start int, width uint64) token {
	s.pos++
	base := baseOf(s.peek())
	if base == 0 || width < 1 || width > api.MaxWidth {
		return token{kind: tokenBad, at: start}
	}
	s.pos++
	value, some := s.digits(base)
	if !some || value>>width != 0 {
		return token{kind: tokenBad, at: start}
	}
	return token{kind: tokenNumber, at: start, num: value, width: int(width)}
}

// digits reads digits of a base, and whether there are some. What reaches tooGreat stays above it, so that no number wraps round.
func (s *scanner) digits(base uint64) (value uint64, some bool) {
	for s.pos < len(s.text) {
		c := s.text[s.pos]
		d := digitOf(c)
		if d >= base && (c != '_' || !some) {
			break
		}
		if d < base {
			some = true
			if value < tooGreat {
				value = value*base + d
			}
		}
		s.pos++
	}
	return value, some
}

func (s *scanner) scanSign() token {
	rest := s.text[s.pos:]
	size := signLength(rest)
	if size == 0 {
		return token{kind: tokenBad, at: s.pos}
	}
	t := token{kind: tokenFixed, at: s.pos, text: rest[:size]}
	s.pos += size
	return t
}

// peek tells the next byte; 0 at the end, which can stand nowhere but in comments.
func (s *scanner) peek() byte {
	if s.pos == len(s.text) {
		return 0
	}
	return s.text[s.pos]
}

func signLength(text string) int {
	if len(text) >= 2 {
		switch text[:2] {
		case "<=", ">=", "==", "!=", "<<", ">>", "&&", "||":
			return 2
		}
	}
	if strings.IndexByte("()[]{};:,.#@*+-&|^~!<>=?", text[0]) >= 0 {
		return 1
	}
	return 0
}

func isLetter(c byte) bool {
	return 'a' <= c && c <= 'z' || 'A' <= c && c <= 'Z' || c == '_'
}

func isDigit(c byte) bool {
	return '0' <= c && c <= '9'
}

func digitOf(c byte) uint64 {
	switch {
	case isDigit(c):
		return uint64(c - '0')
	case 'a' <= c && c <= 'f':
		return uint64(c-'a') + 10
	case 'A' <= c && c <= 'F':
		return uint64(c-'A') + 10
	}
	return noDigit
}

func baseOf(c byte) uint64 {
	switch c {
	case 'b':
		return 2
	case 'd':
		return 10
	case 'h':
		return 16
	}
	return 0
}

func isWord(text string) bool {
	switch text {
	case "module", "endmodule", "input", "output", "wire", "reg", "localparam", "assign", "always",
		"begin", "end", "if", "else", "case", "default", "endcase", "for", "clk":
		return true
	}
	return false
}
