package registry_test

import (
	"slices"
	"testing"

	"scripting/api"
	"scripting/registry"
	"scripting/value"
)

// chance returns numbers that look like those of chance.
type chance struct{ state uint64 }

// below returns a number from 0 to n - 1.
func (c *chance) below(n int) int {
	c.state = c.state*6364136223846793005 + 1442695040888963407
	return int(c.state >> 33 % uint64(n))
}

// model keeps lists of what happened, in which everything is searched as chapter 18 describes it.
type model struct {
	refs     []pair // the references in use
	names    []named
	released []int // all references that were ever released, in order
	greatest int   // the greatest reference that was ever in use
	together int   // the greatest number of references that were in use together
}

// pair is a reference with its value.
type pair struct {
	r int
	v api.Value
}

// named is a name with its value.
type named struct {
	name string
	v    api.Value
}

// find returns where a reference is in the list of those in use, or -1.
func (m *model) find(r int) int {
	return slices.IndexFunc(m.refs, func(p pair) bool { return p.r == r })
}

// ref keeps a value.
func (m *model) ref(v api.Value) (int, api.Errno) {
	switch {
	case !value.Valid(v):
		return 0, api.ErrArg
	case v == none:
		return 0, api.OK
	case len(m.refs) >= api.MaxStack:
		return 0, api.ErrFull
	}
	r := m.greatest + 1
	for _, old := range m.released {
		if m.find(old) < 0 {
			r = old // the last one of them counts
		}
	}
	m.refs = append(m.refs, pair{r, v})
	m.greatest = max(m.greatest, r)
	m.together = max(m.together, len(m.refs))
	return r, api.OK
}

// unref releases a reference.
func (m *model) unref(r int) api.Errno {
	at := m.find(r)
	switch {
	case r == 0:
		return api.OK
	case at < 0:
		return api.ErrRange
	}
	m.refs = slices.Delete(m.refs, at, at+1)
	m.released = append(m.released, r)
	return api.OK
}

// put gives a name a value.
func (m *model) put(name string, v api.Value) api.Errno {
	at := slices.IndexFunc(m.names, func(p named) bool { return p.name == name })
	switch {
	case len(name) > api.MaxString:
		return api.ErrLong
	case !value.Valid(v):
		return api.ErrArg
	case v == none && at >= 0:
		m.names = slices.Delete(m.names, at, at+1)
	case v == none:
	case at >= 0:
		m.names[at].v = v
	case len(m.names) >= api.MaxStack:
		return api.ErrFull
	default:
		m.names = append(m.names, named{name, v})
	}
	return api.OK
}

// roots returns the identities from 1 to a number that are kept: each is searched.
func (m *model) roots(most int) []int {
	var values []api.Value
	for _, p := range m.refs {
		values = append(values, p.v)
	}
	for _, p := range m.names {
		values = append(values, p.v)
	}
	var ids []int
	for id := 1; id <= most; id++ {
		for _, kind := range []int{api.Table, api.Function, api.Thread, api.Data} {
			if slices.Contains(values, object(kind, id)) {
				ids = append(ids, id)
				break
			}
		}
	}
	return ids
}

// mostIDs is the greatest identity of the values by chance.
const mostIDs = 12

// anyValue returns a value by chance.
func (c *chance) anyValue() api.Value {
	switch c.below(8) {
	case 0:
		return none
	case 1:
		return invalid()[c.below(len(invalid()))]
	case 2:
		return valid()[c.below(6)]
	case 3:
		return api.Value{Kind: api.Builtin, Str: "f"}
	}
	return object([]int{api.Table, api.Function, api.Thread, api.Data}[c.below(4)], 1+c.below(mostIDs))
}

// wantStep makes a call on a registry and on a model, and compares their results.
func wantStep(t *testing.T, o *registry.Registry, m *model, c *chance, most int) {
	t.Helper()
	v := c.anyValue()
	n := c.below(most + 3)
	switch c.below(5) {
	case 0, 1:
		r, wantE := m.ref(v)
		wantRef(t, o, v, r, wantE)
	case 2:
		want(t, "Unref", o.Unref(n-1), m.unref(n-1))
	default:
		text := name(n)
		if c.below(20) == 0 {
			text = long(api.MaxString + n%3 - 1)
		}
		want(t, "Put", o.Put(text, v), m.put(text, v))
	}
}

// wantSame checks that a registry has what a model has. It covers P18.6 to P18.8, too.
func wantSame(t *testing.T, o *registry.Registry, m *model, most int) {
	t.Helper()
	ids := m.roots(mostIDs)
	wantRoots(t, o, ids...)
	wantLen(t, o, len(m.refs)+len(m.names))
	for r := -1; r <= most+2; r++ {
		v, e := none, api.ErrRange
		if at := m.find(r); at >= 0 {
			v, e = m.refs[at].v, api.OK
		} else if r == 0 {
			e = api.OK
		}
		wantValue(t, o, r, v, e)
		if e == api.OK && r > m.together {
			t.Errorf("the reference %d is in use, but there were never more than %d", r, m.together)
		}
		if v.Kind >= api.Table && v.Kind != api.Builtin && !slices.Contains(ids, v.Ref) {
			t.Errorf("%s is kept, but not among %v", value.Text(v), ids)
		}
	}
	for n := range most + 3 {
		v, found := none, false
		for _, p := range m.names {
			if p.name == name(n) {
				v, found = p.v, true
			}
		}
		wantFind(t, o, name(n), v, found)
		if v.Kind >= api.Table && v.Kind != api.Builtin && !slices.Contains(ids, v.Ref) {
			t.Errorf("%s is kept, but not among %v", value.Text(v), ids)
		}
	}
}

// TestManySteps covers P18.2 to P18.8 for lists of calls by chance, compared with the model.
func TestManySteps(t *testing.T) {
	for seed := range 60 {
		c := &chance{state: uint64(seed)}
		most := 1 + c.below(12)
		o, m := registry.New(), &model{}
		for range 150 {
			wantStep(t, o, m, c, most)
			wantSame(t, o, m, 2*most)
			if t.Failed() {
				t.Fatalf("seed %d", seed)
			}
		}
	}
}

// TestReferencesByChance covers P18.2, P18.6 and P18.7 for many references: the full number is reached, and left.
func TestReferencesByChance(t *testing.T) {
	c, o, m := &chance{state: 3}, registry.New(), &model{}
	full := false
	for i := range 4000 {
		if i%2000 < 1300 && c.below(10) > 0 || c.below(3) == 0 {
			v := num(i)
			r, wantE := m.ref(v)
			wantRef(t, o, v, r, wantE)
			full = full || wantE == api.ErrFull
		} else {
			r := 1 + c.below(api.MaxStack+1)
			want(t, "Unref", o.Unref(r), m.unref(r))
		}
	}
	if !full {
		t.Error("never full")
	}
	wantSame(t, o, m, api.MaxStack)
}

// TestAllShortLists covers P18.2, P18.3 and P18.7 for all lists of seven calls of Ref and of Unref.
func TestAllShortLists(t *testing.T) {
	const choices = 5
	count := 1
	for range 7 {
		count *= choices
	}
	for code := range count {
		o, m := registry.New(), &model{}
		for rest, left := code, 7; left > 0; rest, left = rest/choices, left-1 {
			if r := rest % choices; r > 0 {
				want(t, "Unref", o.Unref(r), m.unref(r))
			} else {
				r, wantE := m.ref(num(left))
				wantRef(t, o, num(left), r, wantE)
			}
		}
		wantSame(t, o, m, 7)
		if t.Failed() {
			t.Fatalf("the list %d", code)
		}
	}
}
