package lexer

import (
	"strings"

	"scripting/api"
	"scripting/numeral"
)

// longestSymbol is the number of bytes of the longest symbol, which is the three points.
const longestSymbol = 3

// scanner reads a text; at is the index of the next byte, and line its line.
type scanner struct {
	s    string
	at   int
	line int
}

// take returns the next bytes up to the first one that does not pass a test, and moves behind them.
func (r *scanner) take(test func(c byte) bool) string {
	from := r.at
	for r.at < len(r.s) && test(r.s[r.at]) {
		r.at++
	}
	return r.s[from:r.at]
}

// oneOf returns the test of the bytes of a list.
func oneOf(list ...byte) func(c byte) bool {
	return func(c byte) bool {
		for _, x := range list {
			if c == x {
				return true
			}
		}
		return false
	}
}

// noneOf returns the test of the bytes that are not in a list.
func noneOf(list ...byte) func(c byte) bool {
	listed := oneOf(list...)
	return func(c byte) bool { return !listed(c) }
}

// digit reports whether c is a decimal digit.
func digit(c byte) bool { return c >= '0' && c <= '9' }

// word reports whether c is a word byte.
func word(c byte) bool {
	return c >= 'a' && c <= 'z' || c >= 'A' && c <= 'Z' || digit(c) || c == '_'
}

// skip moves behind blanks and remarks. It alone counts lines: no token contains a line feed.
func (r *scanner) skip() {
	blank, inLine := oneOf(' ', '\t', '\n', '\r'), noneOf('\n')
	for {
		r.line += strings.Count(r.take(blank), "\n")
		if !strings.HasPrefix(r.s[r.at:], "--") {
			return
		}
		r.take(inLine)
	}
}

// token reads the token that begins at the next byte.
func (r *scanner) token() (api.Token, api.Errno) {
	t := api.Token{Line: r.line, At: r.at}
	var e api.Errno
	switch c := r.s[r.at]; {
	case digit(c):
		t.Kind = api.TokNumber
		t.Text, e = r.number()
	case word(c):
		t.Kind = api.TokName
		t.Text, e = r.name()
		if Keyword(t.Text) {
			t.Kind = api.TokKeyword
		}
	case c == '"' || c == '\'':
		t.Kind = api.TokString
		t.Text, e = r.literal()
	default:
		t.Kind = api.TokSymbol
		t.Text, e = r.symbol()
	}
	return t, e
}

// name reads a name or keyword.
func (r *scanner) name() (string, api.Errno) {
	text := r.take(word)
	if len(text) > api.MaxName {
		return "", api.ErrLimit
	}
	return text, api.OK
}

// number reads a numeral.
func (r *scanner) number() (string, api.Errno) {
	from := r.at
	_, end, e := numeral.Scan(r.s, from)
	if e != api.OK {
		return "", e
	}
	r.at = end
	if r.take(word) != "" {
		return "", api.ErrForm
	}
	return r.s[from:end], api.OK
}

// symbol reads the longest symbol.
func (r *scanner) symbol() (string, api.Errno) {
	rest := r.s[r.at:]
	for n := min(longestSymbol, len(rest)); n > 0; n-- {
		if isSymbol(rest[:n]) {
			r.at += n
			return rest[:n], api.OK
		}
	}
	return "", api.ErrForm
}

// isSymbol reports whether s is a symbol.
func isSymbol(s string) bool {
	switch s {
	case "+", "-", "*", "/", "//", "%", "^", "#", "&", "~", "|", "<<", ">>", "==", "~=", "<=", ">=", "<", ">", "=",
		"(", ")", "{", "}", "[", "]", "::", ";", ":", ",", ".", "..", "...":
		return true
	}
	return false
}
