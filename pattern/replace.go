package pattern

import (
	"strconv"
	"strings"

	"scripting/api"
)

// Fill returns a replacement with the captures of a match.
func Fill(s, repl string, m api.Match) (string, api.Errno) {
	if !lies(s, m) {
		return "", api.ErrArg
	}
	var out strings.Builder
	long := false
	add := func(text string) {
		long = long || out.Len()+len(text) > api.MaxString
		if !long {
			out.WriteString(text)
		}
	}
	for {
		plain, rest, found := strings.Cut(repl, "%")
		add(plain)
		if !found {
			break
		}
		if rest == "" {
			return "", api.ErrForm
		}
		text, e := insert(s, rest[0], m)
		if e != api.OK {
			return "", e
		}
		add(text)
		repl = rest[1:]
	}
	// An error of form further on comes before this one, so that all of repl is read first.
	if long {
		return "", api.ErrLong
	}
	return out.String(), api.OK
}

// lies reports whether a match and its captures lie in s.
func lies(s string, m api.Match) bool {
	if m.From < 0 || m.From > m.To || m.To > len(s) {
		return false
	}
	for _, c := range m.Caps {
		to := c.To
		if to == -1 {
			to = c.From
		}
		if c.From < 0 || c.From > to || to > len(s) {
			return false
		}
	}
	return true
}

// insert returns what takes the place of % and the byte x.
func insert(s string, x byte, m api.Match) (string, api.Errno) {
	if x == '%' {
		return "%", api.OK
	}
	if x == '0' || x == '1' && len(m.Caps) == 0 {
		return s[m.From:m.To], api.OK
	}
	n := int(x) - '1'
	if n < 0 || n >= min(9, len(m.Caps)) {
		return "", api.ErrForm
	}
	c := m.Caps[n]
	if c.To == -1 {
		return strconv.Itoa(c.From + 1), api.OK
	}
	return s[c.From:c.To], api.OK
}

// Replace replaces matches.
func Replace(s, p, repl string, most int) (string, int, api.Errno) {
	list, e := All(s, p)
	if e != api.OK {
		return "", 0, e
	}
	if most >= 0 && most < len(list) {
		list = list[:most]
	}
	var out strings.Builder
	at := 0
	for _, m := range list {
		text, e := Fill(s, repl, m)
		if e != api.OK {
			return "", 0, e
		}
		out.WriteString(s[at:m.From])
		out.WriteString(text)
		at = m.To
		if out.Len() > api.MaxString {
			// No other error can follow: the form of repl is the same for all matches.
			return "", 0, api.ErrLong
		}
	}
	out.WriteString(s[at:])
	if out.Len() > api.MaxString {
		return "", 0, api.ErrLong
	}
	return out.String(), len(list), api.OK
}

// Escape returns a pattern that matches exactly s.
func Escape(s string) string {
	plain := within("az", "AZ", "09")
	var out strings.Builder
	for i := range len(s) {
		if !plain(s[i]) {
			out.WriteByte('%')
		}
		out.WriteByte(s[i])
	}
	return out.String()
}
