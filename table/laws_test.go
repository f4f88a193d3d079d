package table_test

import (
	"slices"
	"testing"

	"scripting/api"
	"scripting/ordered"
	"scripting/table"
)

// model is a table as the chapter describes it.
type model struct {
	array []api.Value
	rest  *ordered.Map
}

// newModel returns a model of an empty table.
func newModel() *model { return &model{rest: ordered.New()} }

// set does what Set does for a valid key and value.
func (m *model) set(k, v api.Value) {
	n := len(m.array)
	for i := 1; i <= n; i++ {
		if k == num(i) {
			m.array[i-1] = v
			for len(m.array) > 0 && m.array[len(m.array)-1] == none {
				m.array = m.array[:len(m.array)-1]
			}
			return
		}
	}
	if k != num(n+1) || v == none {
		m.rest.Set(k, v)
		return
	}
	m.array = append(m.array, v)
	for m.rest.Get(num(len(m.array)+1)) != none {
		m.array = append(m.array, m.rest.Get(num(len(m.array)+1)))
	}
	var appended []api.Value
	replace := false
	for i := n + 1; i <= len(m.array); i++ {
		appended = append(appended, num(i))
		_, _, _, e := m.rest.Next(num(i))
		replace = replace || e == api.OK
	}
	if !replace {
		return
	}
	fresh := ordered.New()
	for _, k := range m.rest.Keys() {
		if !slices.Contains(appended, k) {
			fresh.Set(k, m.rest.Get(k))
		}
	}
	m.rest = fresh
}

// get does what Get does.
func (m *model) get(k api.Value) api.Value {
	for i, v := range m.array {
		if k == num(i+1) {
			return v
		}
	}
	return m.rest.Get(k)
}

// insert does what Insert does for a place that is in range.
func (m *model) insert(at int, v api.Value) {
	for i := len(m.array); i >= at; i-- {
		m.set(num(i+1), m.get(num(i)))
	}
	m.set(num(at), v)
}

// remove does what Remove does for a place that is in range.
func (m *model) remove(at int) api.Value {
	v, n := m.get(num(at)), len(m.array)
	for i := at; i < n; i++ {
		m.set(num(i), m.get(num(i+1)))
	}
	m.set(num(n), none)
	return v
}

// next does what Next does for a valid key.
func (m *model) next(k api.Value) (api.Value, api.Value, bool, api.Errno) {
	from := -1
	if k == none {
		from = 0
	}
	for i := range m.array {
		if k == num(i+1) {
			from = i + 1
		}
	}
	if from < 0 {
		next, v, found, e := m.rest.Next(k)
		if e != api.OK && k.Kind == api.Number && k.Num.Q == 1 && k.Num.P >= 1 {
			return m.rest.Next(none)
		}
		return next, v, found, e
	}
	for i := from; i < len(m.array); i++ {
		if m.array[i] != none {
			return num(i + 1), m.array[i], true, api.OK
		}
	}
	return m.rest.Next(none)
}

// count returns the number of entries.
func (m *model) count() int {
	n := m.rest.Len()
	for _, v := range m.array {
		if v != none {
			n++
		}
	}
	return n
}

// agree checks that a table and its model are alike, for all of some keys.
func agree(t *testing.T, o *table.Table, m *model, keys []api.Value) {
	t.Helper()
	wantParts(t, o, len(m.array), m.count(), m.rest.Slots())
	for _, k := range append(keys[:len(keys):len(keys)], none) {
		wantGet(t, o, k, m.get(k))
		next, v, found, e := m.next(k)
		if !found {
			wantNoNext(t, o, k, e)
		} else {
			wantNext(t, o, k, next, v)
		}
	}
}

// insert applies a call of Insert without an error to a table and its model.
func insert(t *testing.T, o *table.Table, m *model, at int, v api.Value) {
	t.Helper()
	if e := o.Insert(at, v); e != api.OK {
		t.Fatalf("Insert(%d, %v): error %d", at, v, int(e))
	}
	m.insert(at, v)
}

// remove applies a call of Remove without an error to a table and its model.
func remove(t *testing.T, o *table.Table, m *model, at int) {
	t.Helper()
	want := m.remove(at)
	if v, e := o.Remove(at); v != want || e != api.OK {
		t.Fatalf("Remove(%d): %v, error %d; want %v", at, v, int(e), want)
	}
}

// chance returns numbers that look like those of chance.
type chance struct{ state uint64 }

// below returns a number from 0 to n - 1.
func (c *chance) below(n int) int {
	c.state = c.state*6364136223846793005 + 1442695040888963407
	return int(c.state >> 33 % uint64(n))
}

// call applies one of the calls with some numbers to a table and its model: Set and the removal of each key, and
// Insert and Remove at places from 1 on, as far as they are in range.
func call(t *testing.T, o *table.Table, m *model, keys []api.Value, number int) {
	t.Helper()
	switch at := number - 2*len(keys) + 1; {
	case number < len(keys):
		set(t, o, keys[number], str("s"))
		m.set(keys[number], str("s"))
	case number < 2*len(keys):
		set(t, o, keys[number-len(keys)], none)
		m.set(keys[number-len(keys)], none)
	case at <= 3 && at <= o.Len()+1:
		insert(t, o, m, at, str("i"))
	case at > 3 && at <= 6 && at-3 <= o.Len()+1:
		insert(t, o, m, at-3, none)
	case at > 6 && at-6 <= o.Len():
		remove(t, o, m, at-6)
	}
}

// TestAllShortLists covers P13.1 to P13.6 for all short lists of calls with a few keys.
func TestAllShortLists(t *testing.T) {
	keys := []api.Value{num(1), num(2), num(3), str("x")}
	others := append(keys, num(0), num(4), num(5), num(6), num(7), str("y"))
	var rest func(calls []int)
	rest = func(calls []int) {
		o, m := table.New(), newModel()
		for _, number := range calls {
			call(t, o, m, keys, number)
		}
		agree(t, o, m, others)
		if t.Failed() {
			t.Fatalf("after the calls %v", calls)
		}
		for number := 0; len(calls) < 4 && number < 2*len(keys)+9; number++ {
			rest(append(calls, number))
		}
	}
	rest(nil)
}

// step applies a call by chance to a table and its model. The likelihood of the calls depends on a number, so that
// some tables grow and others have gaps.
func step(t *testing.T, c *chance, o *table.Table, m *model, keys []api.Value, style int) {
	t.Helper()
	at := 1 + c.below(o.Len()+1)
	switch v := []api.Value{num(c.below(50)), none}[min(c.below(2+style%3), 1)]; c.below(12) {
	case 0:
		insert(t, o, m, at, v)
	case 1:
		if at <= o.Len() {
			remove(t, o, m, at)
		}
	case 2, 3, 4:
		if style%2 == 0 {
			at = o.Len() + 1
		}
		set(t, o, num(at), num(c.below(50)))
		m.set(num(at), o.Get(num(at)))
	case 5:
		set(t, o, num(o.Len()+2), num(c.below(50)))
		m.set(num(o.Len()+2), o.Get(num(o.Len()+2)))
	default:
		k := keys[c.below(len(keys))]
		set(t, o, k, v)
		m.set(k, v)
		wantGet(t, o, k, v)
	}
}

// TestByChance covers P13.1 to P13.7 for long lists of calls. What can be seen of the table is looked at after some
// of the calls only, so that several calls come between.
func TestByChance(t *testing.T) {
	for run := range 400 {
		c := &chance{uint64(run)}
		o, m := table.New(), newModel()
		keys := mapKeys()[:c.below(len(mapKeys()))]
		for i := range 5 + c.below(60) {
			keys = append(keys, num(i), str("k"+string(rune('a'+i))))
		}
		if run%5 == 0 {
			keys = keys[:1+c.below(len(keys))]
		}
		for range 400 {
			step(t, c, o, m, keys, run)
			if size := 4 + 2*len(m.array) + 4*m.rest.Slots(); o.Size() != size {
				t.Fatalf("run %d: Size %d; want %d", run, o.Size(), size)
			}
			if c.below(8) == 0 {
				agree(t, o, m, keys)
			}
			if t.Failed() {
				t.Fatalf("in run %d", run)
			}
		}
		agree(t, o, m, keys)
	}
}

// TestGoingThrough is P13.8: each entry comes exactly once, while values change and keys are removed.
func TestGoingThrough(t *testing.T) {
	for run := range 3000 {
		c := &chance{uint64(run)}
		o, left := table.New(), map[api.Value]bool{}
		for range c.below(80) {
			k := []api.Value{num(c.below(25)), str(string(rune('a' + c.below(20))))}[c.below(2)]
			set(t, o, k, []api.Value{none, num(1), num(2)}[c.below(3)])
			left[k] = o.Get(k) != none
		}
		k, v, found, e := o.Next(none)
		for ; found && e == api.OK; k, v, found, e = o.Next(k) {
			if !left[k] || v != o.Get(k) {
				t.Fatalf("run %d: the entry %v, %v", run, k, v)
			}
			left[k] = false
			for range c.below(4) {
				other := []api.Value{k, num(c.below(25)), str(string(rune('a' + c.below(20))))}[c.below(3)]
				if o.Get(other) != none {
					set(t, o, other, []api.Value{none, num(3)}[c.below(2)])
					left[other] = left[other] && o.Get(other) != none
				}
			}
		}
		if e != api.OK {
			t.Fatalf("run %d: error %d", run, int(e))
		}
		for k, is := range left {
			if is {
				t.Fatalf("run %d: the key %v is left", run, k)
			}
		}
	}
}

// TestInsertAndRemove is P13.9.
func TestInsertAndRemove(t *testing.T) {
	for run := range 2000 {
		c := &chance{uint64(run)}
		o := table.New()
		for i := range c.below(12) {
			set(t, o, num(i+1), num(i))
		}
		for range c.below(8) {
			set(t, o, []api.Value{str("a"), str("b"), {Kind: api.Bool}}[c.below(3)], []api.Value{none, num(1)}[c.below(2)])
			set(t, o, num(1+c.below(o.Len()+1)), none)
		}
		var before []api.Value
		for i := range 14 {
			before = append(before, o.Get(num(i+1)))
		}
		at, count := 1+c.below(o.Len()+1), o.Count()
		if e := o.Insert(at, str("new")); e != api.OK || o.Get(num(at)) != str("new") || o.Count() != count+1 {
			t.Fatalf("run %d: Insert(%d): error %d", run, at, int(e))
		}
		if v, e := o.Remove(at); v != str("new") || e != api.OK || o.Count() != count {
			t.Fatalf("run %d: Remove(%d): %v, error %d", run, at, v, int(e))
		}
		for i, v := range before {
			wantGet(t, o, num(i+1), v)
		}
		if t.Failed() {
			t.Fatalf("in run %d: %v", run, before)
		}
	}
}

// TestBorder covers P13.3 and P13.10 for all orders in which some keys can be set.
func TestBorder(t *testing.T) {
	var rest func(o []int)
	rest = func(order []int) {
		o := table.New()
		for _, i := range order {
			set(t, o, num(i), str("x"))
		}
		n := 0
		for slices.Contains(order, n+1) {
			n++
		}
		wantParts(t, o, n, len(order), len(order)-n)
		for i := 0; i <= 7; i++ {
			if !slices.Contains(order, i) && len(order) < 6 {
				rest(append(order[:len(order):len(order)], i))
			}
		}
	}
	rest(nil)
}
