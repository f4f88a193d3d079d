package pattern_test

import (
	"slices"
	"strings"

	"scripting/api"
)

// The functions of this file work on the text of a pattern, item by item, as the document describes them.

const (
	lower  = "abcdefghijklmnopqrstuvwxyz"
	upper  = "ABCDEFGHIJKLMNOPQRSTUVWXYZ"
	digits = "0123456789"
)

// listed returns the bytes of the class of a lower-case letter.
func listed(letter byte) string {
	switch letter {
	case 'a':
		return lower + upper
	case 'd':
		return digits
	case 'l':
		return lower
	case 'u':
		return upper
	case 'w':
		return lower + upper + digits
	case 'x':
		return digits + "abcdefABCDEF"
	case 's':
		return "\t\n\v\f\r "
	case 'p':
		return "!\"#$%&'()*+,-./:;<=>?@[\\]^_`{|}~"
	case 'c':
		return "\x00\x01\x02\x03\x04\x05\x06\x07\x08\x09\x0a\x0b\x0c\x0d\x0e\x0f\x10\x11\x12\x13\x14\x15\x16\x17\x18\x19\x1a\x1b\x1c\x1d\x1e\x1f\x7f"
	}
	return ""
}

// hasByte reports whether c is a byte of s.
func hasByte(s string, c byte) bool { return strings.IndexByte(s, c) >= 0 }

// wantPair reports whether % and x have a meaning as a class or other pair.
func wantPair(x byte) bool {
	return !hasByte(lower+upper+digits, x) || listed(x|32) != ""
}

// wantSet returns the number of bytes of the set with which p begins, 0 if it has no end or a wrong element.
func wantSet(p string) int {
	n := 1
	if strings.HasPrefix(p, "[^") {
		n = 2
	}
	for first := n; n < len(p); {
		rest := p[n:]
		switch {
		case rest[0] == ']' && n > first:
			return n + 1
		case rest[0] == '%':
			if len(rest) < 2 || !wantPair(rest[1]) {
				return 0
			}
			n += 2
		case len(rest) >= 3 && rest[1] == '-' && rest[2] != ']':
			n += 3
		default:
			n++
		}
	}
	return 0
}

// wantSingle returns the number of bytes of the single with which p begins, 0 if it is malformed.
func wantSingle(p string) int {
	switch {
	case p[0] == '[':
		return wantSet(p)
	case p[0] != '%':
		return 1
	case len(p) < 2 || !wantPair(p[1]):
		return 0
	}
	return 2
}

// wantItem returns the number of bytes of the item with which p begins, 0 if it is malformed.
func wantItem(p string) int {
	switch {
	case strings.HasPrefix(p, "()"):
		return 2
	case p[0] == '(' || p[0] == ')':
		return 1
	case strings.HasPrefix(p, "%b"):
		if len(p) < 4 {
			return 0
		}
		return 4
	case strings.HasPrefix(p, "%f"):
		if n := wantSet(p[2:]); n > 0 && p[2] == '[' {
			return 2 + n
		}
		return 0
	case p[0] == '%' && len(p) > 1 && hasByte(digits[1:], p[1]):
		return 2
	}
	n := wantSingle(p)
	if n > 0 && n < len(p) && hasByte("*+-?", p[n]) {
		n++
	}
	return n
}

// wantCheck returns what Check has to return.
func wantCheck(p string) api.Errno {
	p = strings.TrimPrefix(p, "^")
	// The captures, by their (: those that have not ended, those that have, and positions.
	states := ""
	for p != "" && p != "$" {
		n := wantItem(p)
		if n == 0 {
			return api.ErrForm
		}
		open := strings.LastIndex(states, "o")
		switch x := p[:n]; {
		case x[0] == '(' && len(states) == 16:
			return api.ErrLimit
		case x == "()":
			states += "p"
		case x == "(":
			states += "o"
		case x == ")" && open < 0:
			return api.ErrForm
		case x == ")":
			states = states[:open] + "e" + states[open+1:]
		case n == 2 && x[0] == '%' && hasByte(digits, x[1]):
			if k := int(x[1] - '1'); k >= len(states) || states[k] != 'e' {
				return api.ErrForm
			}
		}
		p = p[n:]
	}
	if strings.Contains(states, "o") {
		return api.ErrForm
	}
	return api.OK
}

// oracle applies the rules 1 to 9 to a string and counts the steps; it goes no further than just beyond the limit.
type oracle struct {
	s     string
	steps int
}

// limited reports whether more steps would be needed than are permitted.
func (o *oracle) limited() bool { return o.steps > 100000 }

// belongs reports whether the byte at an index exists and belongs to a single.
func (o *oracle) belongs(x string, i int) bool {
	return i < len(o.s) && wantBelongs(x, o.s[i])
}

// wantBelongs reports whether c belongs to a single.
func wantBelongs(x string, c byte) bool {
	switch {
	case x == ".":
		return true
	case x[0] == '[' && len(x) > 1:
		return wantInSet(x[1:len(x)-1], c)
	case x[0] == '%' && hasByte(lower, x[1]):
		return hasByte(listed(x[1]), c)
	case x[0] == '%' && hasByte(upper, x[1]):
		return !hasByte(listed(x[1]+32), c)
	}
	return x[len(x)-1] == c
}

// wantInSet reports whether c belongs to the set with the text x between its brackets.
func wantInSet(x string, c byte) bool {
	if x[0] == '^' {
		return !wantAmong(x[1:], c)
	}
	return wantAmong(x, c)
}

// wantAmong reports whether c belongs to the elements x of a set.
func wantAmong(x string, c byte) bool {
	for x != "" {
		n, in := 1, x[0] == c
		switch {
		case x[0] == '%':
			n, in = 2, wantBelongs(x[:2], c)
		case len(x) >= 3 && x[1] == '-':
			n, in = 3, x[0] <= c && c <= x[2]
		}
		if in {
			return true
		}
		x = x[n:]
	}
	return false
}

// match matches the rest p of a pattern at an index; began are the numbers of the captures that have not ended.
func (o *oracle) match(p string, i int, caps []api.Cap, began []int) (int, []api.Cap, bool) {
	o.steps++
	if o.limited() {
		return 0, nil, false
	}
	if p == "" || p == "$" {
		return i, caps, p == "" || i == len(o.s)
	}
	n := wantItem(p)
	x, rest := p[:n], p[n:]
	caps, began = slices.Clone(caps), slices.Clone(began)
	switch {
	case x == "()":
		return o.match(rest, i, append(caps, api.Cap{From: i, To: -1}), began)
	case x == "(":
		return o.match(rest, i, append(caps, api.Cap{From: i}), append(began, len(caps)))
	case x == ")":
		last := len(began) - 1
		caps[began[last]].To = i
		return o.match(rest, i, caps, began[:last])
	case n == 2 && x[0] == '%' && hasByte(digits, x[1]):
		c := caps[x[1]-'1']
		text := o.s[c.From:c.To]
		if !strings.HasPrefix(o.s[i:], text) {
			return 0, nil, false
		}
		return o.match(rest, i+len(text), caps, began)
	case strings.HasPrefix(x, "%b"):
		end := o.balanced(x[2], x[3], i)
		if end < 0 {
			return 0, nil, false
		}
		return o.match(rest, end, caps, began)
	case strings.HasPrefix(x, "%f"):
		around := "\x00" + o.s + "\x00"
		if wantBelongs(x[2:], around[i]) || !wantBelongs(x[2:], around[i+1]) {
			return 0, nil, false
		}
		return o.match(rest, i, caps, began)
	}
	// The places at which the next items may match, in their order.
	one := wantSingle(x)
	places := o.places(x[:one], x[one:], i)
	for k, at := range places {
		if k > 0 && x[one:] == "-" {
			o.steps++
		}
		if o.limited() {
			break
		}
		if end, c, ok := o.match(rest, at, caps, began); ok {
			return end, c, true
		}
	}
	return 0, nil, false
}

// places returns the indices at which the items after a single with a quantifier may match.
func (o *oracle) places(x, quantifier string, i int) []int {
	n, most := 0, len(o.s)
	if quantifier == "" || quantifier == "?" {
		most = 1
	}
	for n < most && o.belongs(x, i+n) {
		n++
	}
	var up []int
	for k := range n + 1 {
		up = append(up, i+k)
	}
	switch quantifier {
	case "":
		if n == 0 {
			return nil
		}
		return up[1:2]
	case "*":
		o.steps += n
	case "+":
		o.steps += n
		up = up[1:]
	case "-":
		return up
	}
	slices.Reverse(up)
	return up
}

// balanced returns the index after what %bxy stands for at an index, or -1.
func (o *oracle) balanced(x, y byte, i int) int {
	if i == len(o.s) || o.s[i] != x {
		return -1
	}
	for k, depth := i+1, 1; k < len(o.s); k++ {
		o.steps++
		if o.s[k] == y {
			depth--
		} else if o.s[k] == x {
			depth++
		}
		if depth == 0 {
			return k + 1
		}
	}
	return -1
}

// wantAt returns what the pattern p, which is well-formed, matches at an index.
func (o *oracle) wantAt(p string, at int) (api.Match, bool) {
	end, caps, ok := o.match(strings.TrimPrefix(p, "^"), at, nil, nil)
	if !ok {
		return api.Match{}, false
	}
	return api.Match{From: at, To: end, Caps: caps}, true
}

// wantFind returns the first match from an index on.
func (o *oracle) wantFind(p string, from int) (api.Match, bool) {
	for i := from; i <= len(o.s) && !o.limited(); i++ {
		if m, ok := o.wantAt(p, i); ok || strings.HasPrefix(p, "^") {
			return m, ok
		}
	}
	return api.Match{}, false
}

// wantAll returns all matches.
func (o *oracle) wantAll(p string) []api.Match {
	var list []api.Match
	for i := 0; i <= len(o.s) && !o.limited(); {
		m, ok := o.wantAt(p, i)
		if ok && (len(list) == 0 || list[len(list)-1].To != m.To) {
			list = append(list, m)
			i = m.To
		} else {
			i++
		}
		if strings.HasPrefix(p, "^") {
			break
		}
	}
	return list
}
