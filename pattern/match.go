package pattern

import (
	"slices"
	"strings"

	"scripting/api"
)

// maxSteps is the number of steps that one call may need.
const maxSteps = 100000

// matcher matches a string with a pattern. A failed way need not restore the captures: no item looks at a
// capture before the way on which it is has set it again.
type matcher struct {
	s    string
	p    program
	caps []api.Cap
	left int         // steps
	step func() bool // takes a step and reports whether it is permitted
}

// begin returns a matcher, or the error of the pattern.
func begin(s, p string) (*matcher, api.Errno) {
	q, e := read(p)
	if e != api.OK {
		return nil, e
	}
	m := &matcher{s: s, p: q, caps: make([]api.Cap, q.captures), left: maxSteps}
	m.step = func() bool {
		m.left--
		return m.left >= 0
	}
	return m, api.OK
}

// exhausted reports whether more steps would be needed than are permitted; then nothing that was found counts.
func (m *matcher) exhausted() bool { return m.left < 0 }

// first returns the first match at one of the indices from, from + 1, .. last.
func (m *matcher) first(from, last int) (api.Match, bool, api.Errno) {
	for i := from; i <= last; i++ {
		x, found := m.at(i)
		if m.exhausted() {
			return api.Match{}, false, api.ErrLimit
		}
		if found {
			return x, true, api.OK
		}
	}
	return api.Match{}, false, api.OK
}

// at returns the match of all items at an index.
func (m *matcher) at(i int) (api.Match, bool) {
	end, found := m.rest(0, i)
	if !found {
		return api.Match{}, false
	}
	return api.Match{From: i, To: end, Caps: slices.Clone(m.caps)}, true
}

// rest matches the items from number j on at an index and returns the end of the match.
func (m *matcher) rest(j, i int) (int, bool) {
	for ; m.step(); j++ {
		if j == len(m.p.items) {
			return i, !m.p.end || i == len(m.s)
		}
		x := &m.p.items[j]
		switch x.repeat {
		case '?':
			return m.optional(j, i)
		case '*':
			return m.longest(j, i, 0)
		case '+':
			return m.longest(j, i, 1)
		case '-':
			return m.shortest(j, i)
		}
		next, found := m.once(x, i)
		if !found {
			return 0, false
		}
		i = next
	}
	return 0, false
}

// optional matches item number j, which has the quantifier ?, and the items after it.
func (m *matcher) optional(j, i int) (int, bool) {
	if m.belongs(j, i) {
		if end, found := m.rest(j+1, i+1); found {
			return end, true
		}
	}
	return m.rest(j+1, i)
}

// longest matches item number j as often as possible, but at least so many times, and the items after it.
func (m *matcher) longest(j, i, least int) (int, bool) {
	n := 0
	for m.belongs(j, i+n) && m.step() {
		n++
	}
	for ; n >= least && !m.exhausted(); n-- {
		if end, found := m.rest(j+1, i+n); found {
			return end, true
		}
	}
	return 0, false
}

// shortest matches item number j as seldom as possible, and the items after it.
func (m *matcher) shortest(j, i int) (int, bool) {
	for {
		if end, found := m.rest(j+1, i); found {
			return end, true
		}
		if !m.belongs(j, i) || !m.step() {
			return 0, false
		}
		i++
	}
}

// belongs reports whether there is a byte at an index that belongs to item number j, a single.
func (m *matcher) belongs(j, i int) bool {
	return i < len(m.s) && m.p.items[j].test(m.s[i])
}

// once matches an item that has no quantifier, and returns the index after it.
func (m *matcher) once(x *item, i int) (int, bool) {
	switch x.kind {
	case opening:
		m.caps[x.capture].From = i
	case closing:
		m.caps[x.capture].To = i
	case position:
		m.caps[x.capture] = api.Cap{From: i, To: -1}
	case frontier:
		return i, !x.test(byteAt(m.s, i-1)) && x.test(byteAt(m.s, i))
	case balance:
		return balanced(m.s, i, x.x, x.y, m.step)
	case again:
		c := m.caps[x.capture]
		text := m.s[c.From:c.To]
		return i + len(text), strings.HasPrefix(m.s[i:], text)
	default:
		return i + 1, i < len(m.s) && x.test(m.s[i])
	}
	return i, true
}

// byteAt returns the byte at an index, or 0 at both ends of s.
func byteAt(s string, i int) byte {
	if i < 0 || i >= len(s) {
		return 0
	}
	return s[i]
}

// balanced returns the index after the string that begins at an index with x and ends with the y that belongs
// to it. It examines a byte only if step permits it.
func balanced(s string, i int, x, y byte, step func() bool) (int, bool) {
	if i == len(s) || s[i] != x {
		return 0, false
	}
	depth := 1
	for i++; i < len(s) && step(); i++ {
		switch s[i] {
		case y:
			depth--
		case x:
			depth++
		}
		if depth == 0 {
			return i + 1, true
		}
	}
	return 0, false
}
