package ordered_test

import (
	"math"
	"slices"
	"strings"
	"testing"

	"scripting/api"
	"scripting/ordered"
)

// none is the value nil.
var none = api.Value{}

// num returns an integer as a value.
func num(n int) api.Value { return api.Value{Kind: api.Number, Num: api.Num{P: n, Q: 1}} }

// str returns a string as a value.
func str(s string) api.Value { return api.Value{Kind: api.String, Str: s} }

// mapOf returns a map to which the calls of Set with these keys and values were applied.
func mapOf(t *testing.T, pairs ...api.Value) *ordered.Map {
	t.Helper()
	o := ordered.New()
	for i := 0; i < len(pairs); i += 2 {
		set(t, o, pairs[i], pairs[i+1])
	}
	return o
}

// set applies a call of Set without an error.
func set(t *testing.T, o *ordered.Map, k, v api.Value) {
	t.Helper()
	if e := o.Set(k, v); e != api.OK {
		t.Fatalf("Set(%.99v, %.99v): error %d", k, v, int(e))
	}
}

// wantMap checks the keys of a map, in order, and its number of slots.
func wantMap(t *testing.T, o *ordered.Map, slots int, keys ...api.Value) {
	t.Helper()
	if l := o.Keys(); !slices.Equal(l, keys) {
		t.Errorf("Keys: %.999v; want %.999v", l, keys)
	}
	if o.Len() != len(keys) || o.Slots() != slots {
		t.Errorf("%d keys, %d slots; want %d, %d", o.Len(), o.Slots(), len(keys), slots)
	}
}

// wantGet checks the value of a key.
func wantGet(t *testing.T, o *ordered.Map, k, want api.Value) {
	t.Helper()
	if v := o.Get(k); v != want {
		t.Errorf("Get(%.99v): %.99v; want %.99v", k, v, want)
	}
}

// wantNext checks the entry after a key.
func wantNext(t *testing.T, o *ordered.Map, k, wantKey, wantValue api.Value) {
	t.Helper()
	if next, v, found, e := o.Next(k); next != wantKey || v != wantValue || !found || e != api.OK {
		t.Errorf("Next(%.99v): %.99v, %.99v, %v, error %d; want %.99v, %.99v", k, next, v, found, int(e), wantKey, wantValue)
	}
}

// wantNoNext checks that there is no entry after a key, with an error or without.
func wantNoNext(t *testing.T, o *ordered.Map, k api.Value, want api.Errno) {
	t.Helper()
	if next, v, found, e := o.Next(k); next != none || v != none || found || e != want {
		t.Errorf("Next(%.99v): %.99v, %.99v, %v, error %d; want error %d", k, next, v, found, int(e), int(want))
	}
}

// properKeys returns different proper keys, of all kinds and with the greatest fields.
func properKeys() []api.Value {
	return []api.Value{
		{Kind: api.Bool}, {Kind: api.Bool, Ref: 1}, num(0), num(1), num(-1), num(api.MaxNum), {Kind: api.Number, Num: api.Num{P: 1, Q: 2}}, {Kind: api.Number, Num: api.Num{P: 1, Q: api.MaxNum}},
		str(""), str("1"), str("a"), str("a\x00"), str("A"), str("\xff"), str(strings.Repeat("x", api.MaxString)), {Kind: api.Builtin, Str: "a"}, {Kind: api.Builtin, Str: "b"},
		{Kind: api.Table, Ref: 1}, {Kind: api.Table, Ref: 2}, {Kind: api.Function, Ref: 1}, {Kind: api.Thread, Ref: 1}, {Kind: api.Data, Ref: 1}, {Kind: api.Data, Ref: math.MaxInt},
	}
}

// notValid returns values that are not valid.
func notValid() []api.Value {
	return []api.Value{
		{Ref: 1}, {Str: "a"}, {Num: api.Num{P: 1, Q: 1}}, {Kind: api.Bool, Ref: 2}, {Kind: api.Bool, Str: "a"}, {Kind: api.Number}, {Kind: api.Number, Num: api.Num{P: 2, Q: 2}},
		{Kind: api.Number, Num: api.Num{P: api.MaxNum + 1, Q: 1}}, {Kind: api.Number, Num: api.Num{P: 1, Q: 1}, Ref: 1}, str(strings.Repeat("x", api.MaxString+1)), {Kind: api.String, Str: "a", Ref: 1},
		{Kind: api.Table}, {Kind: api.Function, Ref: -1}, {Kind: api.Thread, Ref: 1, Str: "a"}, {Kind: api.Data}, {Kind: api.Builtin}, {Kind: -1}, {Kind: 99, Ref: 1},
	}
}

// TestEmpty covers P12.1, P12.3 and P12.4 for an empty map, which New returns; so is the zero Map.
func TestEmpty(t *testing.T) {
	for _, o := range []*ordered.Map{ordered.New(), {}} {
		wantMap(t, o, 0)
		for _, k := range append(properKeys(), append(notValid(), none)...) {
			wantGet(t, o, k, none)
			if k != none {
				wantNoNext(t, o, k, api.ErrKey)
			}
		}
		wantNoNext(t, o, none, api.OK)
		set(t, o, num(1), none)
		wantMap(t, o, 0)
		set(t, o, num(1), num(2))
		wantMap(t, o, 1, num(1))
		wantGet(t, o, num(1), num(2))
	}
}

// TestNewMaps covers P12.1: maps share nothing.
func TestNewMaps(t *testing.T) {
	a, b := ordered.New(), ordered.New()
	set(t, a, num(1), num(2))
	wantMap(t, b, 0)
	set(t, b, num(1), num(3))
	wantGet(t, a, num(1), num(2))
	wantMap(t, ordered.New(), 0)
}

// TestNilMap covers a nil Map of P12.2 to P12.4, and of P12.1 by the document's first rule.
func TestNilMap(t *testing.T) {
	var o *ordered.Map
	for _, k := range append(properKeys(), append(notValid(), none)...) {
		wantGet(t, o, k, none)
		wantNoNext(t, o, k, api.ErrNil)
		for _, v := range []api.Value{none, num(1), {Ref: 1}} {
			if e := o.Set(k, v); e != api.ErrNil {
				t.Errorf("Set(%.99v, %v): error %d", k, v, int(e))
			}
		}
	}
	wantMap(t, o, 0)
}

// TestProperKeys covers P12.1, P12.2 and P12.4 for keys and values of all kinds.
func TestProperKeys(t *testing.T) {
	o := ordered.New()
	keys := properKeys()
	for i, k := range keys {
		wantGet(t, o, k, none)
		set(t, o, k, keys[len(keys)-1-i])
		wantMap(t, o, i+1, keys[:i+1]...)
	}
	for i, k := range keys {
		wantGet(t, o, k, keys[len(keys)-1-i])
		wantNext(t, o, append([]api.Value{none}, keys...)[i], k, keys[len(keys)-1-i])
	}
	wantNoNext(t, o, keys[len(keys)-1], api.OK)
}

// TestEqualKeys covers P12.1: keys are equal if their fields are, whatever memory their strings are in.
func TestEqualKeys(t *testing.T) {
	o := mapOf(t, str("ab"), num(1))
	half := "b"
	set(t, o, str("a"+half), num(2))
	wantMap(t, o, 1, str("ab"))
	wantGet(t, o, str("ab"), num(2))
	wantGet(t, o, api.Value{Kind: api.Builtin, Str: "ab"}, none)
	wantGet(t, o, api.Value{Kind: api.String, Str: "ab", Ref: 1}, none)
}

// TestErrorsOfSet covers the errors of P12.2, and their order; nothing changes.
func TestErrorsOfSet(t *testing.T) {
	o := mapOf(t, num(1), num(10), num(2), num(20), num(1), none)
	fail := func(k, v api.Value, want api.Errno) {
		t.Helper()
		if e := o.Set(k, v); e != want {
			t.Errorf("Set(%.99v, %.99v): error %d; want %d", k, v, int(e), int(want))
		}
		wantMap(t, o, 2, num(2))
		wantGet(t, o, num(2), num(20))
	}
	for _, k := range append(notValid(), none) {
		for _, v := range append(notValid(), none, num(1)) {
			fail(k, v, api.ErrKey)
		}
	}
	for _, k := range properKeys() {
		for _, v := range notValid() {
			fail(k, v, api.ErrArg)
		}
	}
	fail(num(2), api.Value{Ref: 1}, api.ErrArg)
	fail(num(3), none, api.OK)
	fail(num(1), none, api.OK)
}

// TestSet covers P12.2: the example, and what becomes of the slots.
func TestSet(t *testing.T) {
	a, b, c := str("a"), str("b"), str("c")
	o := mapOf(t, a, num(1), b, num(2), a, none, a, num(3))
	wantMap(t, o, 3, b, a)
	wantGet(t, o, a, num(3))
	set(t, o, b, num(4)) // it stays where it is
	wantMap(t, o, 3, b, a)
	wantGet(t, o, b, num(4))
	set(t, o, b, none)
	wantMap(t, o, 3, a)
	wantGet(t, o, b, none)
	set(t, o, b, none) // it is removed already
	set(t, o, c, none) // there is none
	wantMap(t, o, 3, a)
	set(t, o, a, none)
	wantMap(t, o, 3)
	set(t, o, c, c)
	wantMap(t, o, 4, c)
}

// TestDrop covers P12.2: removed slots are dropped if they are more than the number of keys plus 8.
func TestDrop(t *testing.T) {
	for keys := range 6 {
		for removed := range 20 {
			for _, known := range []bool{false, true} {
				o := ordered.New()
				want := fill(t, o, keys, removed)
				k := str("new")
				if known && removed > 0 {
					k = num(-1) // the first one that was removed
				}
				set(t, o, k, num(1))
				slots := keys + removed + 1
				if removed > keys+8 {
					slots = keys + 1
				}
				wantMap(t, o, slots, append(want, k)...)
				wantGone(t, o, removed, slots > keys+1, k)
			}
		}
	}
}

// fill sets the keys from 1 on, removes slots of other keys, which are negative, and returns the keys.
func fill(t *testing.T, o *ordered.Map, keys, removed int) []api.Value {
	t.Helper()
	var list []api.Value
	for i := range removed {
		set(t, o, num(-1-i), num(1))
	}
	for i := range keys {
		set(t, o, num(1+i), num(1))
		list = append(list, num(1+i))
	}
	for i := range removed {
		set(t, o, num(-1-i), none)
	}
	wantMap(t, o, keys+removed, list...)
	return list
}

// wantGone checks that the slots of removed keys are still there, or that none of them is, apart from the key of
// the last slot.
func wantGone(t *testing.T, o *ordered.Map, removed int, there bool, last api.Value) {
	t.Helper()
	first := last
	if l := o.Keys(); there && len(l) > 0 {
		first = l[0]
	}
	for i := range removed {
		switch k := num(-1 - i); {
		case k == last:
			wantNoNext(t, o, k, api.OK)
		case there:
			wantNext(t, o, k, first, num(1))
		default:
			wantNoNext(t, o, k, api.ErrKey)
		}
		if k := num(-1 - i); k != last {
			wantGet(t, o, k, none)
		}
	}
}

// TestDropsNothing covers P12.2: neither a removal nor a new value of a key drops slots.
func TestDropsNothing(t *testing.T) {
	o := ordered.New()
	fill(t, o, 2, 30)
	set(t, o, num(1), num(5))
	wantMap(t, o, 32, num(1), num(2))
	set(t, o, num(-1), none)
	set(t, o, num(-99), none)
	wantMap(t, o, 32, num(1), num(2))
	set(t, o, num(2), none)
	wantMap(t, o, 32, num(1))
	for _, k := range append(notValid(), none) {
		if e := o.Set(k, num(1)); e != api.ErrKey {
			t.Errorf("Set(%.99v): error %d", k, int(e))
		}
	}
	wantMap(t, o, 32, num(1))
	set(t, o, num(3), num(1))
	wantMap(t, o, 2, num(1), num(3))
}

// TestNext covers P12.3, also for the slots of removed keys.
func TestNext(t *testing.T) {
	a, b, c, d := str("a"), str("b"), str("c"), str("d")
	o := mapOf(t, a, num(1), b, num(2), c, num(3))
	wantNext(t, o, none, a, num(1))
	wantNext(t, o, a, b, num(2))
	wantNext(t, o, b, c, num(3))
	wantNoNext(t, o, c, api.OK)
	wantNoNext(t, o, d, api.ErrKey)
	set(t, o, b, none)
	wantNext(t, o, a, c, num(3))
	wantNext(t, o, b, c, num(3))
	set(t, o, a, none)
	for _, k := range []api.Value{none, a, b} {
		wantNext(t, o, k, c, num(3))
	}
	set(t, o, b, num(4)) // its slot is now behind that of c
	wantNext(t, o, c, b, num(4))
	wantNoNext(t, o, b, api.OK)
	wantNext(t, o, a, c, num(3))
	set(t, o, c, none)
	wantNext(t, o, a, b, num(4))
	set(t, o, b, none)
	for _, k := range []api.Value{none, a, b, c} {
		wantNoNext(t, o, k, api.OK)
	}
	set(t, o, d, num(5))
	for _, k := range []api.Value{none, a, b, c} {
		wantNext(t, o, k, d, num(5))
	}
	for _, k := range notValid() {
		wantNoNext(t, o, k, api.ErrKey)
	}
}

// TestNextAfterTheLastRemovedSlot covers P12.3 for a key with several removed slots: the last one counts.
func TestNextAfterTheLastRemovedSlot(t *testing.T) {
	a, b, c := str("a"), str("b"), str("c")
	o := mapOf(t, a, num(1), a, none, b, num(2), a, num(3), a, none, c, num(4))
	wantMap(t, o, 4, b, c)
	wantNext(t, o, none, b, num(2))
	wantNext(t, o, a, c, num(4))
	set(t, o, a, num(5))
	wantMap(t, o, 5, b, c, a)
	wantNoNext(t, o, a, api.OK)
}

// TestKeysAreNew covers P12.4 with the rules of the document: a result is new memory.
func TestKeysAreNew(t *testing.T) {
	o := mapOf(t, num(1), num(10), num(2), num(20))
	l := o.Keys()
	l[0] = num(9)
	_ = append(l[:1], num(8))
	wantMap(t, o, 2, num(1), num(2))
	l = o.Keys()
	set(t, o, num(1), none)
	if !slices.Equal(l, []api.Value{num(1), num(2)}) {
		t.Errorf("a result has changed: %v", l)
	}
}
