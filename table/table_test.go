package table_test

import (
	"math"
	"strings"
	"testing"

	"scripting/api"
	"scripting/table"
)

// none is the value nil.
var none = api.Value{}

// num returns an integer as a value.
func num(n int) api.Value { return api.Value{Kind: api.Number, Num: api.Num{P: n, Q: 1}} }

// str returns a string as a value.
func str(s string) api.Value { return api.Value{Kind: api.String, Str: s} }

// set applies a call of Set without an error.
func set(t *testing.T, o *table.Table, k, v api.Value) {
	t.Helper()
	if e := o.Set(k, v); e != api.OK {
		t.Fatalf("Set(%.99v, %.99v): error %d", k, v, int(e))
	}
}

// tableOf returns a table to which the calls of Set with these keys and values were applied.
func tableOf(t *testing.T, pairs ...api.Value) *table.Table {
	t.Helper()
	o := table.New()
	for i := 0; i < len(pairs); i += 2 {
		set(t, o, pairs[i], pairs[i+1])
	}
	return o
}

// sequence returns a table with the values of the keys from 1 on; the last one is not nil.
func sequence(t *testing.T, values ...api.Value) *table.Table {
	t.Helper()
	o := table.New()
	for i := range values {
		set(t, o, num(i+1), num(0))
	}
	for i, v := range values {
		set(t, o, num(i+1), v)
	}
	return o
}

// wantParts checks the length of the array part, the number of entries and the number of slots of the map part.
func wantParts(t *testing.T, o *table.Table, array, count, slots int) {
	t.Helper()
	if o.Len() != array || o.Array() != array {
		t.Errorf("Len %d, Array %d; want %d", o.Len(), o.Array(), array)
	}
	if o.Count() != count {
		t.Errorf("Count %d; want %d", o.Count(), count)
	}
	if size := 4 + 2*array + 4*slots; o.Size() != size {
		t.Errorf("Size %d; want %d", o.Size(), size)
	}
}

// wantGet checks the value of a key.
func wantGet(t *testing.T, o *table.Table, k, want api.Value) {
	t.Helper()
	if v := o.Get(k); v != want {
		t.Errorf("Get(%.99v): %.99v; want %.99v", k, v, want)
	}
}

// wantSequence checks that the values of the keys from 1 on are these, and that the key after them has none.
func wantSequence(t *testing.T, o *table.Table, values ...api.Value) {
	t.Helper()
	for i, v := range append(values, none) {
		wantGet(t, o, num(i+1), v)
	}
	if o.Len() != len(values) {
		t.Errorf("Len %d; want %d", o.Len(), len(values))
	}
}

// wantNext checks the entry after a key.
func wantNext(t *testing.T, o *table.Table, k, wantKey, wantValue api.Value) {
	t.Helper()
	if next, v, found, e := o.Next(k); next != wantKey || v != wantValue || !found || e != api.OK {
		t.Errorf("Next(%.99v): %.99v, %.99v, %v, error %d; want %.99v, %.99v", k, next, v, found, int(e), wantKey, wantValue)
	}
}

// wantNoNext checks that there is no entry after a key, with an error or without.
func wantNoNext(t *testing.T, o *table.Table, k api.Value, want api.Errno) {
	t.Helper()
	if next, v, found, e := o.Next(k); next != none || v != none || found || e != want {
		t.Errorf("Next(%.99v): %.99v, %.99v, %v, error %d; want error %d", k, next, v, found, int(e), int(want))
	}
}

// wantError checks that a call of Set returns an error.
func wantError(t *testing.T, o *table.Table, k, v api.Value, want api.Errno) {
	t.Helper()
	if e := o.Set(k, v); e != want {
		t.Errorf("Set(%.99v, %.99v): error %d; want %d", k, v, int(e), int(want))
	}
}

// mapKeys returns different valid keys that are no integers of at least 1, of all kinds and with the greatest fields.
func mapKeys() []api.Value {
	return []api.Value{
		{Kind: api.Bool}, {Kind: api.Bool, Ref: 1}, num(0), num(-1), num(-api.MaxNum),
		{Kind: api.Number, Num: api.Num{P: 1, Q: 2}}, {Kind: api.Number, Num: api.Num{P: 3, Q: 2}}, {Kind: api.Number, Num: api.Num{P: 1, Q: api.MaxNum}},
		str(""), str("1"), str("a"), str("a\x00"), str("\xff"), str(strings.Repeat("x", api.MaxString)), {Kind: api.Builtin, Str: "1"}, {Kind: api.Builtin, Str: "a"},
		{Kind: api.Table, Ref: 1}, {Kind: api.Function, Ref: 1}, {Kind: api.Thread, Ref: 1}, {Kind: api.Data, Ref: 1}, {Kind: api.Data, Ref: math.MaxInt},
	}
}

// notValid returns values that are not valid. Some of them have the Num of an integer from 1 on.
func notValid() []api.Value {
	one := api.Num{P: 1, Q: 1}
	return []api.Value{
		{Ref: 1}, {Str: "a"}, {Num: one}, {Kind: api.Bool, Ref: 2}, {Kind: api.Bool, Num: one}, {Kind: api.Number}, {Kind: api.Number, Num: api.Num{P: 2, Q: 2}},
		{Kind: api.Number, Num: api.Num{P: 1}}, {Kind: api.Number, Num: api.Num{P: 1, Q: -1}}, {Kind: api.Number, Num: api.Num{P: api.MaxNum + 1, Q: 1}},
		{Kind: api.Number, Num: one, Ref: 1}, {Kind: api.Number, Num: one, Str: "1"}, str(strings.Repeat("x", api.MaxString+1)), {Kind: api.String, Num: one, Str: "a"}, {Kind: api.String, Str: "a", Ref: 1},
		{Kind: api.Table}, {Kind: api.Table, Ref: 1, Num: one}, {Kind: api.Function, Ref: -1}, {Kind: api.Thread, Ref: 1, Str: "a"}, {Kind: api.Data},
		{Kind: api.Builtin}, {Kind: api.Builtin, Num: one, Str: "a"}, {Kind: -1}, {Kind: 99, Ref: 1}, {Kind: 99, Num: one},
	}
}

// TestNew covers P13.1: a new table has no entries, and tables share nothing.
func TestNew(t *testing.T) {
	a, b := table.New(), table.New()
	wantParts(t, a, 0, 0, 0)
	wantNoNext(t, a, none, api.OK)
	for _, k := range append(mapKeys(), append(notValid(), none, num(1), num(2), num(api.MaxNum))...) {
		wantGet(t, a, k, none)
	}
	set(t, a, num(1), str("x"))
	set(t, a, str("k"), str("y"))
	wantParts(t, b, 0, 0, 0)
	wantGet(t, b, num(1), none)
	wantGet(t, b, str("k"), none)
	wantParts(t, table.New(), 0, 0, 0)
}

// TestNil covers a nil table.
func TestNil(t *testing.T) {
	var o *table.Table
	wantGet(t, o, num(1), none)
	if o.Len() != 0 || o.Array() != 0 || o.Count() != 0 || o.Size() != 0 {
		t.Errorf("Len %d, Array %d, Count %d, Size %d", o.Len(), o.Array(), o.Count(), o.Size())
	}
	for _, k := range append(mapKeys(), append(notValid(), none, num(1))...) {
		wantError(t, o, k, num(1), api.ErrNil)
		wantError(t, o, k, api.Value{Ref: 1}, api.ErrNil)
		wantNoNext(t, o, k, api.ErrNil)
	}
	for at := -1; at < 3; at++ {
		if e := o.Insert(at, num(1)); e != api.ErrNil {
			t.Errorf("Insert(%d): error %d", at, int(e))
		}
		if v, e := o.Remove(at); v != none || e != api.ErrNil {
			t.Errorf("Remove(%d): %v, error %d", at, v, int(e))
		}
	}
}

// TestSetOfTheMapPart covers P13.1 and P13.2 for keys of all kinds that are never in the array part.
func TestSetOfTheMapPart(t *testing.T) {
	o := table.New()
	keys := mapKeys()
	for i, k := range keys {
		wantGet(t, o, k, none)
		set(t, o, k, keys[len(keys)-1-i])
		wantParts(t, o, 0, i+1, i+1)
	}
	before := none
	for i, k := range keys {
		wantGet(t, o, k, keys[len(keys)-1-i])
		wantNext(t, o, before, k, keys[len(keys)-1-i])
		before = k
	}
	wantNoNext(t, o, before, api.OK)
	for i, k := range keys {
		set(t, o, k, none)
		wantGet(t, o, k, none)
		wantParts(t, o, 0, len(keys)-1-i, len(keys)) // a removed slot counts
	}
}

// TestGetOfKeysThatAreNotValid covers P13.1: such a key has no value, also if it looks like one that has.
func TestGetOfKeysThatAreNotValid(t *testing.T) {
	o := tableOf(t, num(1), str("a"), num(2), str("b"), str("a"), str("c"), api.Value{Kind: api.Table, Ref: 1}, str("d"))
	for _, k := range append(notValid(), none) {
		wantGet(t, o, k, none)
	}
}

// TestErrorsOfSet covers the errors of P13.2, and their order; nothing changes.
func TestErrorsOfSet(t *testing.T) {
	o := tableOf(t, num(1), num(10), num(2), num(20), str("a"), num(30))
	for _, k := range append(notValid(), none) {
		for _, v := range append(notValid(), none, num(1)) {
			wantError(t, o, k, v, api.ErrKey)
		}
	}
	for _, k := range append(mapKeys(), num(1), num(2), num(3), num(4)) {
		for _, v := range notValid() {
			wantError(t, o, k, v, api.ErrArg)
		}
	}
	wantParts(t, o, 2, 3, 1)
	wantSequence(t, o, num(10), num(20))
	wantGet(t, o, str("a"), num(30))
}

// TestExamples covers the examples of P13.2 and of the chapter.
func TestExamples(t *testing.T) {
	o := tableOf(t, num(2), str("x"), num(1), str("y"))
	wantParts(t, o, 2, 2, 0)
	set(t, o, num(1), none)
	wantParts(t, o, 2, 1, 0)
	set(t, o, num(2), none)
	wantParts(t, o, 0, 0, 0)
	o = tableOf(t, num(3), str("c"), num(1), str("a"), num(2), str("b"))
	wantParts(t, o, 3, 3, 0)
	if o.Size() != 10 {
		t.Errorf("Size %d", o.Size())
	}
	wantSequence(t, o, str("a"), str("b"), str("c"))
}

// TestAppend covers P13.2: what is appended to the array part, and what follows it there.
func TestAppend(t *testing.T) {
	o := table.New()
	set(t, o, num(1), none) // nil is not appended
	wantParts(t, o, 0, 0, 0)
	set(t, o, num(2), str("b"))
	wantParts(t, o, 0, 1, 1)
	set(t, o, num(1), none)
	wantParts(t, o, 0, 1, 1)
	set(t, o, num(5), str("e"))
	set(t, o, num(3), str("c"))
	wantParts(t, o, 0, 3, 3)
	set(t, o, num(1), str("a"))
	wantParts(t, o, 3, 4, 1)
	wantSequence(t, o, str("a"), str("b"), str("c"))
	wantGet(t, o, num(5), str("e"))
	set(t, o, num(4), none)
	wantParts(t, o, 3, 4, 1)
	set(t, o, num(4), str("d"))
	wantParts(t, o, 5, 5, 0)
	wantSequence(t, o, str("a"), str("b"), str("c"), str("d"), str("e"))
	set(t, o, num(7), str("g"))
	wantParts(t, o, 5, 6, 1)
	set(t, o, num(api.MaxNum), str("z"))
	wantParts(t, o, 5, 7, 2)
	wantGet(t, o, num(api.MaxNum), str("z"))
}

// TestShrink covers P13.2: the array part becomes shorter only from its end.
func TestShrink(t *testing.T) {
	o := sequence(t, num(1), num(2), num(3), num(4), num(5))
	set(t, o, num(3), none)
	set(t, o, num(4), none)
	wantParts(t, o, 5, 3, 0)
	set(t, o, num(4), num(40))
	wantParts(t, o, 5, 4, 0)
	set(t, o, num(4), none)
	set(t, o, num(6), none)
	wantParts(t, o, 5, 3, 0)
	set(t, o, num(5), none)
	wantParts(t, o, 2, 2, 0)
	wantSequence(t, o, num(1), num(2))
	set(t, o, num(1), none)
	wantParts(t, o, 2, 1, 0)
	set(t, o, num(5), num(50)) // now a key of the map part
	wantParts(t, o, 2, 2, 1)
	set(t, o, num(2), none)
	wantParts(t, o, 0, 1, 1)
	set(t, o, num(1), num(10))
	wantParts(t, o, 1, 2, 1)
	wantGet(t, o, num(2), none) // what was there does not come back
	wantGet(t, o, num(3), none)
}

// TestReplacedMapPart covers P13.2: the map part loses its removed slots when it has a slot of a key that is
// appended, removed or not, and keeps them otherwise.
func TestReplacedMapPart(t *testing.T) {
	o := tableOf(t, str("a"), num(1), str("b"), num(2), str("b"), none, num(2), num(3), num(2), none)
	wantParts(t, o, 0, 1, 3)
	set(t, o, num(1), str("x")) // no slot of 1
	wantParts(t, o, 1, 2, 3)
	wantNoNext(t, o, str("b"), api.OK)
	set(t, o, num(2), str("y")) // the removed slot of 2
	wantParts(t, o, 2, 3, 1)
	wantNoNext(t, o, str("b"), api.ErrKey)
	wantNoNext(t, o, str("a"), api.OK)

	o = tableOf(t, str("a"), num(1), str("b"), num(2), num(2), num(3), str("c"), num(4), str("b"), none)
	set(t, o, num(1), str("x")) // the slot of 2, which is not removed
	wantParts(t, o, 2, 4, 2)
	wantNext(t, o, num(2), str("a"), num(1))
	wantNext(t, o, str("a"), str("c"), num(4))
	wantNoNext(t, o, str("c"), api.OK)
	wantNoNext(t, o, str("b"), api.ErrKey)
	set(t, o, str("b"), num(5))
	wantParts(t, o, 2, 5, 3)
	wantNext(t, o, str("c"), str("b"), num(5))
}

// TestReplacedMapPartInUse covers P13.2 for a map part with many keys: what becomes of its slots after it was
// replaced.
func TestReplacedMapPartInUse(t *testing.T) {
	o := table.New()
	for i := range 50 {
		set(t, o, str("k"+string(rune('A'+i))), num(i))
	}
	a, b, c := str("kA"), str("kB"), str("kC")
	set(t, o, b, none)
	set(t, o, num(2), str("y"))
	wantParts(t, o, 0, 50, 51)
	set(t, o, num(1), str("x")) // replaced: without slots of 2 and of b
	wantParts(t, o, 2, 51, 49)
	wantNoNext(t, o, b, api.ErrKey)
	wantNext(t, o, a, c, num(2))
	set(t, o, b, none) // there is no slot
	wantParts(t, o, 2, 51, 49)
	wantNoNext(t, o, b, api.ErrKey)
	set(t, o, a, num(7)) // its slot stays
	wantParts(t, o, 2, 51, 49)
	set(t, o, c, none) // its slot becomes a removed one
	wantParts(t, o, 2, 50, 49)
	wantNext(t, o, a, str("kD"), num(3))
	wantNext(t, o, c, str("kD"), num(3))
	wantNext(t, o, num(2), a, num(7))
	set(t, o, b, num(8)) // a slot at the end
	wantParts(t, o, 2, 51, 50)
	wantNoNext(t, o, b, api.OK)
	set(t, o, num(3), str("z")) // no slot of 3: not replaced
	wantParts(t, o, 3, 52, 50)
	wantNext(t, o, c, str("kD"), num(3))
	set(t, o, num(5), str("v"))
	set(t, o, num(4), str("u"))
	wantParts(t, o, 5, 54, 49)
	wantNoNext(t, o, c, api.ErrKey)
}

// TestNext covers P13.4: the entries of the array part, then those of the map part.
func TestNext(t *testing.T) {
	o := tableOf(t, str("x"), num(9), num(9), num(90), num(1), num(10), num(2), num(20), num(3), num(30))
	set(t, o, num(2), none)
	wantNext(t, o, none, num(1), num(10))
	wantNext(t, o, num(1), num(3), num(30))
	wantNext(t, o, num(2), num(3), num(30))
	wantNext(t, o, num(3), str("x"), num(9))
	wantNext(t, o, str("x"), num(9), num(90))
	wantNoNext(t, o, num(9), api.OK)
	for _, i := range []int{4, 5, 8, 10, api.MaxNum} { // integers without a slot
		wantNext(t, o, num(i), str("x"), num(9))
	}
	for _, k := range append(mapKeys(), notValid()...) {
		wantNoNext(t, o, k, api.ErrKey)
	}
	set(t, o, num(1), none)
	wantNext(t, o, none, num(3), num(30))
	wantNext(t, o, num(1), num(3), num(30))
	set(t, o, num(1), num(11))
	wantNext(t, o, none, num(1), num(11))
	set(t, o, num(9), none)
	wantNoNext(t, o, num(9), api.OK) // after its removed slot
	wantNoNext(t, o, str("x"), api.OK)
	set(t, o, str("x"), none)
	wantNoNext(t, o, str("x"), api.OK)
	wantNoNext(t, o, num(3), api.OK)
	wantNoNext(t, o, num(4), api.OK)
	wantNext(t, o, num(1), num(3), num(30))
}

// TestNextWhileRemoving covers P13.4: the example.
func TestNextWhileRemoving(t *testing.T) {
	o := tableOf(t, num(1), str("a"), num(2), str("b"), str("x"), str("c"))
	k := none
	for _, want := range []api.Value{num(1), num(2), str("x")} {
		next, _, found, e := o.Next(k)
		if next != want || !found || e != api.OK {
			t.Fatalf("Next(%v): %v, %v, error %d; want %v", k, next, found, int(e), want)
		}
		set(t, o, next, none)
		k = next
	}
	wantNoNext(t, o, k, api.OK)
	wantParts(t, o, 0, 0, 1)
}

// TestNextOfAFirstEntry covers P13.4 for array parts that begin with nil, whatever was done with them before.
func TestNextOfAFirstEntry(t *testing.T) {
	o := sequence(t, none, none, none, num(4), num(5))
	wantNext(t, o, none, num(4), num(4))
	wantNext(t, o, num(2), num(4), num(4))
	set(t, o, num(3), num(3))
	wantNext(t, o, none, num(3), num(3))
	wantNext(t, o, num(1), num(3), num(3))
	set(t, o, num(3), none)
	wantNext(t, o, none, num(4), num(4))
	if v, e := o.Remove(2); v != none || e != api.OK {
		t.Errorf("Remove: %v, error %d", v, int(e))
	}
	wantNext(t, o, none, num(3), num(4))
	if e := o.Insert(2, str("b")); e != api.OK {
		t.Errorf("Insert: error %d", int(e))
	}
	wantNext(t, o, none, num(2), str("b"))
	wantNext(t, o, num(1), num(2), str("b"))
	set(t, o, num(2), none)
	wantNext(t, o, none, num(4), num(4))
	for i := 5; i >= 4; i-- {
		set(t, o, num(i), none)
	}
	wantParts(t, o, 0, 0, 0)
	wantNoNext(t, o, none, api.OK)
	set(t, o, num(1), str("a"))
	wantNext(t, o, none, num(1), str("a"))
}

// TestInsert covers P13.5: the example, and nil in different places.
func TestInsert(t *testing.T) {
	for _, c := range []struct {
		before []api.Value
		at     int
		v      api.Value
		after  []api.Value
	}{
		{[]api.Value{num(7), num(8), num(9)}, 2, num(5), []api.Value{num(7), num(5), num(8), num(9)}},
		{[]api.Value{num(7), num(8), num(9)}, 1, num(5), []api.Value{num(5), num(7), num(8), num(9)}},
		{[]api.Value{num(7), num(8), num(9)}, 3, num(5), []api.Value{num(7), num(8), num(5), num(9)}},
		{[]api.Value{num(7), num(8), num(9)}, 4, num(5), []api.Value{num(7), num(8), num(9), num(5)}},
		{[]api.Value{num(7), num(8), num(9)}, 4, none, []api.Value{num(7), num(8), num(9)}},
		{[]api.Value{num(7), num(8), num(9)}, 3, none, []api.Value{num(7), num(8), none, num(9)}},
		{[]api.Value{num(7), num(8), num(9)}, 1, none, []api.Value{none, num(7), num(8), num(9)}},
		{[]api.Value{num(7), none, num(9)}, 2, num(5), []api.Value{num(7), num(5), none, num(9)}},
		{[]api.Value{none, none, num(9)}, 3, num(5), []api.Value{none, none, num(5), num(9)}},
		{[]api.Value{num(7)}, 1, num(5), []api.Value{num(5), num(7)}},
		{nil, 1, num(5), []api.Value{num(5)}},
		{nil, 1, none, nil},
	} {
		o := sequence(t, c.before...)
		if e := o.Insert(c.at, c.v); e != api.OK {
			t.Errorf("Insert(%d, %v) in %v: error %d", c.at, c.v, c.before, int(e))
		}
		wantSequence(t, o, c.after...)
		if t.Failed() {
			t.Fatalf("Insert(%d, %v) in %v", c.at, c.v, c.before)
		}
	}
}

// TestInsertWithAMapPart covers P13.5 with P13.2: values of the map part that follow are appended first.
func TestInsertWithAMapPart(t *testing.T) {
	for at := 1; at <= 3; at++ {
		o := tableOf(t, num(1), str("a"), num(2), str("b"), num(4), str("d"), num(5), str("e"), num(7), str("g"), str("x"), num(1), str("x"), none)
		wantParts(t, o, 2, 5, 4)
		if e := o.Insert(at, str("new")); e != api.OK {
			t.Errorf("Insert: error %d", int(e))
		}
		want := []api.Value{str("a"), str("b"), str("d"), str("e")}
		wantSequence(t, o, append(want[:at-1:at-1], append([]api.Value{str("new")}, want[at-1:]...)...)...)
		wantParts(t, o, 5, 6, 1)
		wantNoNext(t, o, str("x"), api.ErrKey)
	}
}

// TestRemove covers P13.6: the example, and nil in different places.
func TestRemove(t *testing.T) {
	for _, c := range []struct {
		before []api.Value
		at     int
		v      api.Value
		after  []api.Value
	}{
		{[]api.Value{num(7), num(5), num(8), num(9)}, 1, num(7), []api.Value{num(5), num(8), num(9)}},
		{[]api.Value{num(7), num(8), num(9)}, 2, num(8), []api.Value{num(7), num(9)}},
		{[]api.Value{num(7), num(8), num(9)}, 3, num(9), []api.Value{num(7), num(8)}},
		{[]api.Value{num(7), none, num(9)}, 3, num(9), []api.Value{num(7)}},
		{[]api.Value{num(7), none, num(9)}, 2, none, []api.Value{num(7), num(9)}},
		{[]api.Value{num(7), none, num(9)}, 1, num(7), []api.Value{none, num(9)}},
		{[]api.Value{none, none, num(9)}, 3, num(9), nil},
		{[]api.Value{none, none, num(9)}, 1, none, []api.Value{none, num(9)}},
		{[]api.Value{num(7)}, 1, num(7), nil},
	} {
		o := sequence(t, c.before...)
		if v, e := o.Remove(c.at); v != c.v || e != api.OK {
			t.Errorf("Remove(%d) of %v: %v, error %d", c.at, c.before, v, int(e))
		}
		wantSequence(t, o, c.after...)
		if t.Failed() {
			t.Fatalf("Remove(%d) of %v", c.at, c.before)
		}
	}
}

// TestRemoveWithAMapPart covers P13.6: the map part stays as it is.
func TestRemoveWithAMapPart(t *testing.T) {
	o := tableOf(t, num(1), str("a"), num(2), str("b"), num(4), str("d"), str("x"), num(1), str("x"), none)
	if v, e := o.Remove(1); v != str("a") || e != api.OK {
		t.Errorf("Remove: %v, error %d", v, int(e))
	}
	wantSequence(t, o, str("b"))
	wantParts(t, o, 1, 2, 2)
	wantGet(t, o, num(4), str("d"))
}

// TestErrorsOfInsertAndRemove covers the errors of P13.5 and P13.6, and their order; nothing changes.
func TestErrorsOfInsertAndRemove(t *testing.T) {
	for n := range 4 {
		values := []api.Value{num(7), none, num(9)}[3-n:]
		o := sequence(t, values...)
		set(t, o, num(n+2), str("x"))
		for _, at := range []int{math.MinInt, -1, 0, n + 2, n + 3, math.MaxInt} {
			for _, v := range append(notValid(), none, num(1)) {
				if e := o.Insert(at, v); e != api.ErrRange {
					t.Errorf("Insert(%d, %.99v): error %d", at, v, int(e))
				}
			}
		}
		for at := 1; at <= n+1; at++ {
			for _, v := range notValid() {
				if e := o.Insert(at, v); e != api.ErrArg {
					t.Errorf("Insert(%d, %.99v): error %d", at, v, int(e))
				}
			}
		}
		for _, at := range []int{math.MinInt, -1, 0, n + 1, n + 2, math.MaxInt} {
			if v, e := o.Remove(at); v != none || e != api.ErrRange {
				t.Errorf("Remove(%d): %v, error %d", at, v, int(e))
			}
		}
		wantSequence(t, o, values...)
		wantGet(t, o, num(n+2), str("x"))
	}
}
