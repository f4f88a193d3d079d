package lexer

import (
	"strconv"
	"strings"

	"scripting/api"
)

// literal reads a string literal and returns the string that it denotes.
func (r *scanner) literal() (string, api.Errno) {
	quote := r.s[r.at]
	r.at++
	plain := noneOf(quote, '\\', '\n')
	var text strings.Builder
	for {
		text.WriteString(r.take(plain))
		// This comes first: an element that is too much is before all that follows it.
		if text.Len() > api.MaxString {
			return "", api.ErrLimit
		}
		if r.at == len(r.s) || r.s[r.at] == '\n' {
			return "", api.ErrForm
		}
		if r.s[r.at] == quote {
			r.at++
			return text.String(), api.OK
		}
		c, e := r.escape()
		if e != api.OK {
			return "", e
		}
		text.WriteByte(c)
	}
}

// escape reads an escape and returns its byte.
func (r *scanner) escape() (byte, api.Errno) {
	r.at++
	if r.at == len(r.s) {
		return 0, api.ErrForm
	}
	c := r.s[r.at]
	if digit(c) {
		return r.decimal()
	}
	r.at++
	switch c {
	case 'n':
		return '\n', api.OK
	case 't':
		return '\t', api.OK
	case '\\', '\'', '"':
		return c, api.OK
	case 'x':
		return r.hexadecimal()
	}
	return 0, api.ErrForm
}

// decimal reads one to three decimal digits, as many as there are, and returns their byte.
func (r *scanner) decimal() (byte, api.Errno) {
	left := 3
	digits := r.take(func(c byte) bool {
		left--
		return left >= 0 && digit(c)
	})
	n, err := strconv.ParseUint(digits, 10, 8)
	if err != nil {
		return 0, api.ErrRange
	}
	return byte(n), api.OK
}

// hexadecimal reads two hexadecimal digits and returns their byte.
func (r *scanner) hexadecimal() (byte, api.Errno) {
	if len(r.s)-r.at < 2 {
		return 0, api.ErrForm
	}
	n, err := strconv.ParseUint(r.s[r.at:r.at+2], 16, 8)
	if err != nil {
		return 0, api.ErrForm
	}
	r.at += 2
	return byte(n), api.OK
}
