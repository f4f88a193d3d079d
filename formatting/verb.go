package formatting

import (
	"strings"

	"scripting/api"
	"scripting/lexer"
	"scripting/numeral"
	"scripting/rational"
)

// The verbs.
const (
	decimal   = 'd'
	lowerHex  = 'x'
	upperHex  = 'X'
	octal     = 'o'
	fixed     = 'f'
	itself    = 's'
	character = 'c'
	literal   = 'q'
	general   = 'g'
)

const (
	// usualPlaces are the places of the verb f without a point.
	usualPlaces = 6
	// maxByte is the greatest number of a byte.
	maxByte = 255
)

// verb is a verb with the base in which it writes integers (0 if it writes none), whether it writes a sign,
// and whether zeros can pad what it writes.
type verb struct {
	letter byte
	base   int
	signed bool
	zeros  bool
}

// verbs are all verbs.
var verbs = [...]verb{
	{letter: decimal, base: 10, signed: true, zeros: true},
	{letter: lowerHex, base: 16, zeros: true},
	{letter: upperHex, base: 16, zeros: true},
	{letter: octal, base: 8, zeros: true},
	{letter: fixed, signed: true, zeros: true},
	{letter: itself},
	{letter: character},
	{letter: literal},
	{letter: general, signed: true},
}

// verbOf returns the verb with a letter, and whether there is one.
func verbOf(letter byte) (verb, bool) {
	for _, v := range verbs {
		if v.letter == letter {
			return v, true
		}
	}
	return verb{}, false
}

// known reports whether a letter is that of a verb.
func known(letter byte) bool {
	_, found := verbOf(letter)
	return found
}

// written returns what a directive makes of its argument, and whether that fits the verb.
func written(p Piece, a api.Value) (string, bool) {
	v, _ := verbOf(p.Verb)
	s, fits := v.bare(p.Places, a)
	if !fits {
		return "", false
	}
	sign := ""
	if v.signed {
		digits, minus := strings.CutPrefix(s, "-")
		switch {
		case minus:
			sign, s = "-", digits
		case p.Plus:
			sign = "+"
		}
	}
	if v.zeros && p.Zero && !p.Minus {
		s = strings.Repeat("0", missing(sign+s, p.Width)) + s
	}
	return Pad(sign+s, p.Width, p.Minus), true
}

// bare returns what a verb makes of an argument, without padding, and whether that fits the verb.
func (v verb) bare(places int, a api.Value) (string, bool) {
	switch v.letter {
	case itself:
		return beginning(a, places)
	case literal:
		if a.Kind != api.String {
			return "", false
		}
		return lexer.Quote(a.Str), true
	}
	n, found := numberOf(a)
	if !found {
		return "", false
	}
	switch v.letter {
	case general:
		return numeral.Text(n), true
	case fixed:
		if places == noPlaces {
			places = usualPlaces
		}
		s, e := numeral.Fixed(n, places)
		return s, e == api.OK
	}
	return v.integer(n)
}

// integer returns what a verb for integers makes of a number, and whether that fits the verb.
func (v verb) integer(a api.Num) (string, bool) {
	n, whole := rational.Whole(a)
	if !whole {
		return "", false
	}
	switch v.letter {
	case character:
		if n > maxByte {
			return "", false
		}
		fallthrough
	case lowerHex, upperHex, octal:
		if n < 0 {
			return "", false
		}
	}
	if v.letter == character {
		return string([]byte{byte(n)}), true
	}
	s, e := numeral.Base(n, v.base)
	if v.letter == upperHex {
		s = strings.ToUpper(s)
	}
	return s, e == api.OK
}

// beginning returns the text of a string or number, or only its first places, and whether it has one.
func beginning(a api.Value, places int) (string, bool) {
	s := a.Str
	switch {
	case a.Kind == api.Number && rational.Valid(a.Num):
		s = numeral.Text(a.Num)
	case a.Kind != api.String:
		return "", false
	}
	if places != noPlaces && len(s) > places {
		s = s[:places]
	}
	return s, true
}

// numberOf returns the number of an argument, and whether it has one.
func numberOf(a api.Value) (api.Num, bool) {
	switch a.Kind {
	case api.Number:
		return a.Num, rational.Valid(a.Num)
	case api.String:
		n, e := numeral.Parse(a.Str)
		return n, e == api.OK
	}
	return api.Num{}, false
}
