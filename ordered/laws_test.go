package ordered_test

import (
	"slices"
	"testing"

	"scripting/api"
	"scripting/ordered"
)

// place is a slot of a model.
type place struct {
	key, value api.Value
	removed    bool
}

// model is a map as the definitions describe it: a list of slots that is searched.
type model struct{ places []place }

// find returns the index of the slot of a key, and -1 if it has none.
func (m *model) find(k api.Value) int {
	last := -1
	for i, p := range m.places {
		if p.key == k && !p.removed {
			return i
		}
		if p.key == k {
			last = i
		}
	}
	return last
}

// keys returns the keys in order.
func (m *model) keys() []api.Value {
	var list []api.Value
	for _, p := range m.places {
		if !p.removed {
			list = append(list, p.key)
		}
	}
	return list
}

// set sets or removes a proper key, and reports whether it appended a slot.
func (m *model) set(k, v api.Value) bool {
	i := m.find(k)
	switch {
	case v == none && i < 0:
	case v == none:
		m.places[i] = place{key: k, removed: true}
	case i >= 0 && !m.places[i].removed:
		m.places[i].value = v
	default:
		if n := len(m.keys()); len(m.places)-n > n+8 {
			m.places = slices.DeleteFunc(m.places, func(p place) bool { return p.removed })
		}
		m.places = append(m.places, place{key: k, value: v})
		return true
	}
	return false
}

// next returns the place of the entry after a key, whether there is one, and whether the key has a slot or is nil.
func (m *model) next(k api.Value) (place, bool, bool) {
	from := 0
	if k != none {
		i := m.find(k)
		if i < 0 {
			return place{}, false, false
		}
		from = i + 1
	}
	for _, p := range m.places[from:] {
		if !p.removed {
			return p, true, true
		}
	}
	return place{}, false, true
}

// agree checks that a map and its model are alike, for all of some keys.
func agree(t *testing.T, o *ordered.Map, m *model, keys []api.Value) {
	t.Helper()
	wantMap(t, o, len(m.places), m.keys()...)
	agreeOnNext(t, o, m, none)
	for _, k := range keys {
		want := none
		if i := m.find(k); i >= 0 {
			want = m.places[i].value
		}
		wantGet(t, o, k, want)
		agreeOnNext(t, o, m, k)
	}
}

// agreeOnNext checks that a map and its model have the same entry after a key.
func agreeOnNext(t *testing.T, o *ordered.Map, m *model, k api.Value) {
	t.Helper()
	switch p, found, known := m.next(k); {
	case !known:
		wantNoNext(t, o, k, api.ErrKey)
	case !found:
		wantNoNext(t, o, k, api.OK)
	default:
		wantNext(t, o, k, p.key, p.value)
	}
}

// chance returns numbers that look like those of chance.
type chance struct{ state uint64 }

// below returns a number from 0 to n - 1.
func (c *chance) below(n int) int {
	c.state = c.state*6364136223846793005 + 1442695040888963407
	return int(c.state >> 33 % uint64(n))
}

// TestAllShortLists covers P12.1 to P12.4 for all short lists of calls with three keys, after some slots were
// removed.
func TestAllShortLists(t *testing.T) {
	keys := []api.Value{str("a"), str("b"), str("c"), num(-1)}
	var rest func(start int, calls []int)
	rest = func(start int, calls []int) {
		o, m := ordered.New(), &model{}
		for i := range start {
			for _, v := range []api.Value{num(7), none} {
				set(t, o, num(-1-i), v)
				m.set(num(-1-i), v)
			}
		}
		for _, call := range calls {
			k, v := keys[call/3], []api.Value{none, num(1), num(2)}[call%3]
			set(t, o, k, v)
			m.set(k, v)
		}
		agree(t, o, m, keys)
		for call := 0; len(calls) < 4 && call < 9; call++ {
			rest(start, append(calls, call))
		}
	}
	for start := range 12 {
		rest(start, nil)
		if t.Failed() {
			t.Fatalf("with %d removed slots before", start)
		}
	}
}

// TestByChance covers P12.1 to P12.4, P12.6 and P12.7 for long lists of calls. All that can be seen of the map is
// looked at after some of the calls only, so that several calls come between.
func TestByChance(t *testing.T) {
	for run := range 60 {
		c := &chance{uint64(run)}
		o, m := ordered.New(), &model{}
		var keys []api.Value
		for i := range 1 + c.below(40) {
			keys = append(keys, properKeys()[c.below(3)+2*c.below(11)], num(i), str("k"+string(rune('a'+i))))
		}
		insertion, removals := 0, 0 // removed slots after the last insertion, and removals since then
		for range 700 {
			k, v := keys[c.below(len(keys))], num(c.below(50))
			if c.below(10) < 1+c.below(10) {
				v = none
			}
			if v == none && o.Get(k) != none {
				removals++
			}
			before := make([]api.Value, len(keys))
			for i, other := range keys {
				before[i] = o.Get(other)
			}
			set(t, o, k, v)
			removed := o.Slots() - o.Len()
			if m.set(k, v) {
				insertion, removals = removed, 0
				if removed > o.Len()+7 {
					t.Fatalf("run %d: %d removed slots and %d keys", run, removed, o.Len())
				}
			}
			if removed > insertion+removals {
				t.Fatalf("run %d: %d removed slots; %d after the last insertion, %d removals", run, removed, insertion, removals)
			}
			wantGet(t, o, k, v)
			for i, other := range keys {
				if other != k {
					wantGet(t, o, other, before[i])
				}
			}
			if c.below(5) == 0 {
				agree(t, o, m, keys)
			}
			if t.Failed() {
				t.Fatalf("in run %d", run)
			}
		}
	}
}

// TestGoingThrough is P12.5: the keys come in the order of Keys, without those that were removed before their turn.
func TestGoingThrough(t *testing.T) {
	for run := range 3000 {
		c := &chance{uint64(run)}
		o := ordered.New()
		for range c.below(60) {
			set(t, o, num(c.below(20)), []api.Value{none, num(1), num(2)}[c.below(3)])
		}
		left := o.Keys()
		k, _, found, e := o.Next(none)
		for ; found && e == api.OK; k, _, found, e = o.Next(k) {
			if len(left) == 0 || k != left[0] {
				t.Fatalf("run %d: the key %v; want one of %v", run, k, left)
			}
			left = left[1:]
			for range c.below(4) {
				gone := num(c.below(20))
				if c.below(2) == 0 {
					gone = k
				}
				set(t, o, gone, none)
				left = slices.DeleteFunc(left, func(other api.Value) bool { return other == gone })
			}
		}
		if e != api.OK || len(left) != 0 {
			t.Fatalf("run %d: error %d, and the keys %v are left", run, int(e), left)
		}
	}
}

// TestRemovingTheFirst covers P12.3 and P12.5 for the first key of a large map that is removed, again and again:
// this would take very long if Next looked at every removed slot each time.
func TestRemovingTheFirst(t *testing.T) {
	const keys = 200000
	o := ordered.New()
	for i := range keys {
		set(t, o, num(i), num(i))
	}
	for i := range keys {
		k, v, found, e := o.Next(none)
		if k != num(i) || v != num(i) || !found || e != api.OK {
			t.Fatalf("Next: %v, %v, %v, error %d; want %d", k, v, found, int(e), i)
		}
		set(t, o, k, none)
	}
	if o.Len() != 0 || o.Slots() != keys {
		t.Errorf("%d keys, %d slots", o.Len(), o.Slots())
	}
	wantNoNext(t, o, none, api.OK)
	wantNoNext(t, o, num(keys/2), api.OK)
	set(t, o, num(5), num(6))
	wantMap(t, o, 1, num(5))
}

// TestRemovingTheLast covers P12.3 and P12.5 for a large map that is cleared from its end.
func TestRemovingTheLast(t *testing.T) {
	const keys = 100000
	o := ordered.New()
	for i := range keys {
		set(t, o, num(i), num(i))
	}
	for i := keys - 1; i > 0; i-- {
		set(t, o, num(i), none)
		wantNoNext(t, o, num(i-1), api.OK)
		if t.Failed() {
			t.Fatalf("after the removal of %d", i)
		}
	}
	wantNext(t, o, none, num(0), num(0))
	wantNoNext(t, o, num(keys/2), api.OK)
}
