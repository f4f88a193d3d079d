package pattern

import "scripting/api"

// Kinds of items.
const (
	single   = iota
	opening  // (
	closing  // )
	position // ()
	balance  // %bxy
	frontier // %f and a set
	again    // %1 to %9
)

// item is an item of a pattern; the fields that its kind does not have are zero.
type item struct {
	kind    int
	test    byteTest // of a single and of %f
	repeat  byte     // of a single: its quantifier, or 0
	x, y    byte     // of %bxy
	capture int      // of ( ) () and %1 to %9: the number of the capture, counted from 0 on
}

// program is a pattern that was read: its anchors, its items, and the number of its captures.
type program struct {
	start, end bool
	items      []item
	captures   int
}

// States of captures while a pattern is read.
const (
	begun = iota
	ended
	isPosition
)

// reader reads a pattern; at is the index of the next byte.
type reader struct {
	p      string
	at     int
	states []int // of the captures
	open   []int // the numbers of the captures that have begun and not ended
}

// read returns the items of a pattern, or the first error from left to right.
func read(p string) (program, api.Errno) {
	var out program
	r := reader{p: p}
	out.start = r.skip('^')
	for r.at < len(p) {
		if p[r.at] == '$' && r.at == len(p)-1 {
			out.end = true
			break
		}
		x, e := r.item()
		if e != api.OK {
			return program{}, e
		}
		out.items = append(out.items, x)
	}
	if len(r.open) > 0 {
		return program{}, api.ErrForm
	}
	out.captures = len(r.states)
	return out, api.OK
}

// skip moves behind the next byte and reports true if it is c.
func (r *reader) skip(c byte) bool {
	if r.at == len(r.p) || r.p[r.at] != c {
		return false
	}
	r.at++
	return true
}

// item reads an item.
func (r *reader) item() (item, api.Errno) {
	switch {
	case r.skip('('):
		return r.opening()
	case r.skip(')'):
		return r.closing()
	case r.p[r.at] == '%' && r.at+1 < len(r.p):
		switch c := r.p[r.at+1]; {
		case c == 'b':
			r.at += 2
			return r.balance()
		case c == 'f':
			r.at += 2
			return r.frontier()
		case '1' <= c && c <= '9':
			r.at += 2
			return r.again(int(c - '1'))
		}
	}
	return r.single()
}

// opening reads the rest of ( or ().
func (r *reader) opening() (item, api.Errno) {
	n := len(r.states)
	if n == api.MaxCaps {
		return item{}, api.ErrLimit
	}
	if r.skip(')') {
		r.states = append(r.states, isPosition)
		return item{kind: position, capture: n}, api.OK
	}
	r.states = append(r.states, begun)
	r.open = append(r.open, n)
	return item{kind: opening, capture: n}, api.OK
}

// closing reads the rest of ).
func (r *reader) closing() (item, api.Errno) {
	last := len(r.open) - 1
	if last < 0 {
		return item{}, api.ErrForm
	}
	n := r.open[last]
	r.open = r.open[:last]
	r.states[n] = ended
	return item{kind: closing, capture: n}, api.OK
}

// balance reads the rest of %bxy.
func (r *reader) balance() (item, api.Errno) {
	if len(r.p)-r.at < 2 {
		return item{}, api.ErrForm
	}
	r.at += 2
	return item{kind: balance, x: r.p[r.at-2], y: r.p[r.at-1]}, api.OK
}

// frontier reads the rest of %f and a set.
func (r *reader) frontier() (item, api.Errno) {
	if !r.skip('[') {
		return item{}, api.ErrForm
	}
	test, e := r.set()
	if e != api.OK {
		return item{}, e
	}
	return item{kind: frontier, test: test}, api.OK
}

// again returns the item of %1 to %9.
func (r *reader) again(n int) (item, api.Errno) {
	if n >= len(r.states) || r.states[n] != ended {
		return item{}, api.ErrForm
	}
	return item{kind: again, capture: n}, api.OK
}

// single reads a single and perhaps its quantifier.
func (r *reader) single() (item, api.Errno) {
	test, e := r.singleTest()
	if e != api.OK {
		return item{}, e
	}
	x := item{kind: single, test: test}
	for _, c := range []byte("*+-?") {
		if r.skip(c) {
			x.repeat = c
			break
		}
	}
	return x, api.OK
}

// singleTest reads a single without its quantifier.
func (r *reader) singleTest() (byteTest, api.Errno) {
	switch c := r.p[r.at]; {
	case r.skip('.'):
		return func(byte) bool { return true }, api.OK
	case r.skip('%'):
		return r.pair()
	case r.skip('['):
		return r.set()
	default:
		r.at++
		return only(c), api.OK
	}
}

// pair reads the byte after %.
func (r *reader) pair() (byteTest, api.Errno) {
	if r.at == len(r.p) {
		return nil, api.ErrForm
	}
	test := pairTest(r.p[r.at])
	if test == nil {
		return nil, api.ErrForm
	}
	r.at++
	return test, api.OK
}

// set reads the rest of a set.
func (r *reader) set() (byteTest, api.Errno) {
	var b byteSet
	test := b.has
	if r.skip('^') {
		test = func(c byte) bool { return !b.has(c) }
	}
	// The first element is read before any ] is looked for: there it is an element.
	for first := true; first || !r.skip(']'); first = false {
		if r.at == len(r.p) {
			return nil, api.ErrForm
		}
		if e := r.element(&b); e != api.OK {
			return nil, e
		}
	}
	return test, api.OK
}

// element reads an element of a set and adds its bytes.
func (r *reader) element(b *byteSet) api.Errno {
	if r.skip('%') {
		test, e := r.pair()
		if e == api.OK {
			b.addAll(test)
		}
		return e
	}
	rest := r.p[r.at:]
	if len(rest) > 2 && rest[1] == '-' && rest[2] != ']' {
		r.at += 3
		b.addRange(rest[0], rest[2])
		return api.OK
	}
	r.at++
	b.addRange(rest[0], rest[0])
	return api.OK
}
