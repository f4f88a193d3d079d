package numeral

import (
	"strings"

	"scripting/api"
	"scripting/rational"
)

const (
	// maxRead is the greatest integer that is read: the greatest one that rational.Make accepts.
	maxRead = 1 << 62
	// maxBehind is the greatest number of digits behind the point that are read.
	maxBehind = 9
	blanks    = " \t\n\r"
)

// Parse returns the number with a text.
func Parse(s string) (api.Num, api.Errno) {
	s = strings.Trim(s, blanks)
	s, minus := strings.CutPrefix(s, "-")
	a, e := unsigned(s)
	if e != api.OK || !minus {
		return a, e
	}
	return rational.Neg(a)
}

// unsigned returns the number of a text that is a numeral or a fraction.
func unsigned(s string) (api.Num, api.Errno) {
	if p, q, found := strings.Cut(s, "/"); found {
		return fraction(p, q)
	}
	n := measure(s)
	if n.end == 0 || n.end != len(s) {
		return api.Num{}, api.ErrForm
	}
	return n.number()
}

// fraction returns the number of a fraction.
func fraction(p, q string) (api.Num, api.Errno) {
	if !allDigits(p) || !allDigits(q) {
		return api.Num{}, api.ErrForm
	}
	m, fitsP := join(0, p, 10)
	n, fitsQ := join(0, q, 10)
	if !fitsP || !fitsQ || n == 0 {
		return api.Num{}, api.ErrRange
	}
	return rational.Make(m, n)
}

// Scan returns the number whose numeral begins at an index, and the index behind it.
func Scan(s string, at int) (api.Num, int, api.Errno) {
	if at < 0 || at > len(s) {
		return api.Num{}, 0, api.ErrRange
	}
	n := measure(s[at:])
	if n.end == 0 {
		return api.Num{}, 0, api.ErrForm
	}
	a, e := n.number()
	if e != api.OK {
		return api.Num{}, 0, e
	}
	return a, at + n.end, api.OK
}

// parts is a numeral that was recognised: its base, its digits before and behind the point, and the index
// behind it (0 if there is none).
type parts struct {
	base   int
	whole  string
	behind string
	end    int
}

// measure returns the longest numeral at the beginning of s.
func measure(s string) parts {
	if strings.HasPrefix(s, "0x") || strings.HasPrefix(s, "0X") {
		if n := count(s[2:], 16); n > 0 {
			return parts{base: 16, whole: s[2 : 2+n], end: 2 + n}
		}
	}
	n := count(s, 10)
	if n > 0 && n < len(s) && s[n] == '.' {
		if m := count(s[n+1:], 10); m > 0 {
			return parts{base: 10, whole: s[:n], behind: s[n+1 : n+1+m], end: n + 1 + m}
		}
	}
	return parts{base: 10, whole: s[:n], end: n}
}

// number returns the number of a numeral.
func (n parts) number() (api.Num, api.Errno) {
	if len(n.behind) > maxBehind {
		return api.Num{}, api.ErrRange
	}
	p, fits := join(0, n.whole, n.base)
	if fits {
		p, fits = join(p, n.behind, n.base)
	}
	if !fits {
		return api.Num{}, api.ErrRange
	}
	q := 1
	for range len(n.behind) {
		q *= 10
	}
	return rational.Make(p, q)
}

// join returns the integer n with the digits of s put behind it, and whether it is at most maxRead.
func join(n int, s string, base int) (int, bool) {
	for i := range len(s) {
		d := digit(s[i])
		if n > (maxRead-d)/base {
			return 0, false
		}
		n = n*base + d
	}
	return n, true
}

// allDigits reports whether s consists of one or more decimal digits.
func allDigits(s string) bool {
	n := count(s, 10)
	return n > 0 && n == len(s)
}

// count returns the number of digits in a base with which s begins.
func count(s string, base int) int {
	for i := range len(s) {
		if d := digit(s[i]); d < 0 || d >= base {
			return i
		}
	}
	return len(s)
}

// digit returns the value of a hexadecimal digit, and -1 for any other byte.
func digit(c byte) int {
	switch {
	case c >= '0' && c <= '9':
		return int(c - '0')
	case c >= 'a' && c <= 'f':
		return int(c-'a') + 10
	case c >= 'A' && c <= 'F':
		return int(c-'A') + 10
	}
	return -1
}
