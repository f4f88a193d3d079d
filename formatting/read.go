package formatting

import "strings"

const (
	// noPlaces are the Places of a directive without a point.
	noPlaces = -1
	// maxPlaces are the most places of a directive.
	maxPlaces = 12
	// maxDigits is the greatest number of digits of a width and of places.
	maxDigits = 2
)

// reader collects the parts of a format: those that are complete, and the bytes of a text that is not.
type reader struct {
	list []Piece
	text strings.Builder
}

// endText completes the text before a directive or the end of the format, if there is one.
func (r *reader) endText() {
	if r.text.Len() > 0 {
		r.list = append(r.list, Piece{Text: r.text.String()})
		r.text.Reset()
	}
}

// directive reads the directive whose percent sign comes before s. It returns what is behind it, and whether s
// begins with a directive.
func directive(s string) (p Piece, behind string, well bool) {
	s = p.flags(s)
	// A 0 before the width is a flag, so the first digit of the width is none.
	p.Width, s = number(s)
	p.Places = noPlaces
	if digits, point := strings.CutPrefix(s, "."); point {
		p.Places, s = number(digits)
		if len(s) == len(digits) || p.Places > maxPlaces {
			return Piece{}, "", false
		}
	}
	if s == "" || !known(s[0]) {
		return Piece{}, "", false
	}
	p.Verb = s[0]
	return p, s[1:], true
}

// flags reads the flags with which s begins, and returns what is behind them.
func (p *Piece) flags(s string) string {
	for i := range len(s) {
		switch s[i] {
		case '-':
			p.Minus = true
		case '0':
			p.Zero = true
		case '+':
			p.Plus = true
		default:
			return s[i:]
		}
	}
	return ""
}

// number reads the digits with which s begins, up to the greatest number of them, and returns what is behind them.
func number(s string) (n int, behind string) {
	for range maxDigits {
		if s == "" || s[0] < '0' || s[0] > '9' {
			break
		}
		n, s = n*10+int(s[0]-'0'), s[1:]
	}
	return n, s
}
