package formula

import (
	"strings"

	"slope/api"
	"slope/rational"
)

// Kinds of tokens.
const (
	tokenName = iota + 1
	tokenWord
	tokenNumber
	tokenMark
	tokenEnd // a line's
)

// lineEnd is how a line's end is told, at the text's end too.
const lineEnd = "\n"

// token is a token as it stands in the text.
type token struct {
	kind  int
	text  string
	at    int
	value api.Rat // of a number
}

// isDigit tells whether a byte is a decimal digit.
func isDigit(c byte) bool { return '0' <= c && c <= '9' }

// isLetter tells whether a name may begin with that byte.
func isLetter(c byte) bool { return 'a' <= c && c <= 'z' || 'A' <= c && c <= 'Z' || c == '_' }

// isWord tells whether it is one of the words, which are no names.
func isWord(s string) bool {
	switch s {
	case "in", "fn", "let", "out", "sum", "prod":
		return true
	}
	return false
}

// isName tells whether it is a name.
func isName(s string) bool {
	return s != "" && len(s) <= api.MaxName && isLetter(s[0]) && wordSize(s) == len(s) && !isWord(s)
}

// wordSize is how many letters and digits stand ahead.
func wordSize(s string) int {
	n := 0
	for n < len(s) && (isLetter(s[n]) || isDigit(s[n])) {
		n++
	}
	return n
}

// digitsSize is how many digits stand ahead.
func digitsSize(s string) int {
	n := 0
	for n < len(s) && isDigit(s[n]) {
		n++
	}
	return n
}

// plainSize is the size of the number without brackets that stands ahead; 0: it is none.
func plainSize(s string) int {
	n := digitsSize(s)
	if strings.HasPrefix(s[n:], ".") {
		places := digitsSize(s[n+1:])
		if places == 0 {
			return 0
		}
		n += 1 + places
	}
	if n > api.MaxDigits {
		return 0
	}
	return n
}

// bracketedSize is the size of the number in brackets that stands ahead; 0: it is none.
func bracketedSize(s string) int {
	n := len("[")
	if strings.HasPrefix(s[n:], "-") {
		n++
	}
	above := digitsSize(s[n:])
	n += above
	if above > 0 && strings.HasPrefix(s[n:], "/") {
		above = digitsSize(s[n+1:])
		n += 1 + above
	}
	if above == 0 || !strings.HasPrefix(s[n:], "]") {
		return 0
	}
	return n + len("]")
}

// scanner goes over a text byte by byte.
type scanner struct {
	text   string
	at     int
	begun  bool // this line has a token
	tokens []token
}

// split is a text's tokens, or its first fault.
func split(text string) ([]token, fault) {
	if len(text) > api.MaxText {
		return nil, fault{api.MaxText, api.ErrText}
	}
	s := scanner{text: text}
	for s.at < len(text) {
		if f := s.step(); f.err != api.OK {
			return nil, f
		}
	}
	if f := s.endLine(); f.err != api.OK {
		return nil, f
	}
	return s.tokens, fault{}
}

// step goes on by a token, a blank, a comment or a line's end.
func (s *scanner) step() fault {
	rest := s.text[s.at:]
	switch c := rest[0]; c {
	case ' ', '\t', '\r':
		s.at++
		return fault{}
	case '#':
		for s.at < len(s.text) && s.text[s.at] != '\n' {
			s.at++
		}
		return fault{}
	case '\n':
		f := s.endLine()
		s.at++
		return f
	case ',', '=', '+', '-', '*', '/', '^', '(', ')':
		return s.take(token{kind: tokenMark, text: rest[:1]})
	case '[':
		return s.number(bracketedSize(rest))
	default:
		if isDigit(c) {
			return s.number(plainSize(rest))
		}
		if isLetter(c) {
			return s.word(wordSize(rest))
		}
		return fault{s.at, api.ErrByte}
	}
}

// endLine takes a line's end, if the line has some token.
func (s *scanner) endLine() fault {
	if !s.begun {
		return fault{}
	}
	end := s.take(token{kind: tokenEnd, text: lineEnd})
	s.begun = false
	return end
}

// word takes a name or a word of that size.
func (s *scanner) word(size int) fault {
	if size > api.MaxName {
		return fault{s.at, api.ErrName}
	}
	t := token{kind: tokenName, text: s.text[s.at : s.at+size]}
	if isWord(t.text) {
		t.kind = tokenWord
	}
	return s.take(t)
}

// number takes a number of that size; 0: it is none.
func (s *scanner) number(size int) fault {
	text, rest := s.text[s.at:s.at+size], s.text[s.at+size:]
	if size == 0 || rest != "" && (isLetter(rest[0]) || rest[0] == '.') {
		return fault{s.at, api.ErrNumber}
	}
	v, _, e := rational.Parse(strings.Trim(text, "[]"))
	if e != api.OK {
		return fault{s.at, api.ErrNumber}
	}
	return s.take(token{kind: tokenNumber, text: text, value: v})
}

// take adds the token that stands here. Only here are they counted: what else is wrong with a token is told ahead of that.
func (s *scanner) take(t token) fault {
	if len(s.tokens) == api.MaxTokens {
		return fault{s.at, api.ErrTokens}
	}
	t.at = s.at
	s.tokens = append(s.tokens, t)
	if t.kind != tokenEnd {
		s.at += len(t.text)
		s.begun = true
	}
	return fault{}
}
