package registry_test

import (
	"math"
	"slices"
	"strconv"
	"strings"
	"testing"

	"scripting/api"
	"scripting/registry"
	"scripting/value"
)

// none is the value nil.
var none = api.Value{}

// num returns an integer as a value.
func num(n int) api.Value { return api.Value{Kind: api.Number, Num: api.Num{P: n, Q: 1}} }

// str returns a string as a value.
func str(s string) api.Value { return api.Value{Kind: api.String, Str: s} }

// object returns a value with an identity.
func object(kind, ref int) api.Value { return api.Value{Kind: kind, Ref: ref} }

// long returns a string of so many bytes.
func long(n int) string { return strings.Repeat("x", n) }

// valid returns a valid value of each kind other than nil.
func valid() []api.Value {
	return []api.Value{{Kind: api.Bool}, {Kind: api.Bool, Ref: 1}, num(-api.MaxNum), {Kind: api.Number, Num: api.Num{P: 1, Q: 3}}, str(""), str(long(api.MaxString)),
		object(api.Table, 1), object(api.Function, math.MaxInt), {Kind: api.Builtin, Str: "f"}, object(api.Thread, 2), object(api.Data, 3)}
}

// invalid returns values that are not valid.
func invalid() []api.Value {
	return []api.Value{{Ref: 1}, {Kind: api.Bool, Ref: 2}, {Kind: api.Number}, {Kind: api.Number, Num: api.Num{P: 2, Q: 2}}, num(api.MaxNum + 1), str(long(api.MaxString + 1)), {Kind: api.String, Ref: 1},
		object(api.Table, 0), object(api.Function, -1), {Kind: api.Builtin}, {Kind: api.Thread, Ref: 1, Str: "x"}, {Kind: api.Data, Ref: 1, Num: api.Num{Q: 1}}, {Kind: -1}, object(api.Data+1, 1)}
}

// noReferences returns numbers that are in use in no registry.
func noReferences() []int {
	return []int{math.MinInt, math.MinInt + 1, -1 << 32, -api.MaxStack, -1, api.MaxStack + 1, 1 << 32, 1<<32 + 1, math.MaxInt - 1, math.MaxInt}
}

// want checks the error of a call.
func want(t *testing.T, call string, e, want api.Errno) {
	t.Helper()
	if e != want {
		t.Errorf("%s: error %d; want %d", call, int(e), int(want))
	}
}

// wantRef checks Ref.
func wantRef(t *testing.T, o *registry.Registry, v api.Value, want int, wantE api.Errno) {
	t.Helper()
	if r, e := o.Ref(v); r != want || e != wantE {
		t.Errorf("Ref(%.20s): %d, error %d; want %d, error %d", value.Text(v), r, int(e), want, int(wantE))
	}
}

// wantValue checks Value.
func wantValue(t *testing.T, o *registry.Registry, r int, want api.Value, wantE api.Errno) {
	t.Helper()
	if v, e := o.Value(r); v != want || e != wantE {
		t.Errorf("Value(%d): %.20s, error %d; want %.20s, error %d", r, value.Text(v), int(e), value.Text(want), int(wantE))
	}
}

// wantFind checks Find.
func wantFind(t *testing.T, o *registry.Registry, name string, want api.Value, wantFound bool) {
	t.Helper()
	if v, found := o.Find(name); v != want || found != wantFound {
		t.Errorf("Find(%.20q): %.20s, %v; want %.20s, %v", name, value.Text(v), found, value.Text(want), wantFound)
	}
}

// wantLen checks Len.
func wantLen(t *testing.T, o *registry.Registry, want int) {
	t.Helper()
	if n := o.Len(); n != want {
		t.Errorf("Len: %d; want %d", n, want)
	}
}

// wantRoots checks Roots.
func wantRoots(t *testing.T, o *registry.Registry, ids ...int) {
	t.Helper()
	if list := o.Roots(); !slices.Equal(list, ids) {
		t.Errorf("Roots: %v; want %v", list, ids)
	}
}

// keep returns a registry that keeps values with the references 1, 2, ..
func keep(t *testing.T, list ...api.Value) *registry.Registry {
	t.Helper()
	o := registry.New()
	for i, v := range list {
		wantRef(t, o, v, i+1, api.OK)
	}
	return o
}

// TestNew covers P18.1.
func TestNew(t *testing.T) {
	o := registry.New()
	if o == nil {
		t.Fatal("New: nil")
	}
	wantLen(t, o, 0)
	wantRoots(t, o)
	wantFind(t, o, "", none, false)
	for _, r := range append(noReferences(), 1, 2, api.MaxStack) {
		wantValue(t, o, r, none, api.ErrRange)
		want(t, "Unref", o.Unref(r), api.ErrRange)
	}
	wantRef(t, o, num(7), 1, api.OK)
	wantLen(t, registry.New(), 0) // two registries have nothing in common
}

// TestRef covers P18.2: the values of all kinds, nil, and values that are not valid.
func TestRef(t *testing.T) {
	o := keep(t, valid()...)
	n := len(valid())
	for _, v := range append(invalid(), none) {
		wantE := api.ErrArg
		if v == none {
			wantE = api.OK
		}
		wantRef(t, o, v, 0, wantE)
		wantLen(t, o, n)
	}
	for i, v := range valid() {
		wantValue(t, o, i+1, v, api.OK)
	}
	wantRef(t, o, str("more"), n+1, api.OK)
	wantRef(t, o, str("more"), n+2, api.OK) // the same value has another reference
	want(t, "Unref", o.Unref(n+1), api.OK)
	wantValue(t, o, n+2, str("more"), api.OK)
}

// TestExampleOfRef is the example of P18.2.
func TestExampleOfRef(t *testing.T) {
	o := keep(t, str("a"), str("b"), str("c"))
	want(t, "Unref", o.Unref(1), api.OK)
	want(t, "Unref", o.Unref(2), api.OK)
	wantRef(t, o, str("d"), 2, api.OK)
	wantRef(t, o, str("e"), 1, api.OK)
	wantRef(t, o, str("f"), 4, api.OK)
}

// TestLastReleased covers P18.2: what counts is when a reference was released the last time.
func TestLastReleased(t *testing.T) {
	o := keep(t, str("a"), str("b"), str("c"), str("d"))
	for _, r := range []int{3, 1, 4} {
		want(t, "Unref", o.Unref(r), api.OK)
	}
	wantRef(t, o, none, 0, api.OK) // nil takes none
	wantRef(t, o, str("e"), 4, api.OK)
	want(t, "Unref", o.Unref(2), api.OK)
	want(t, "Unref", o.Unref(2), api.ErrRange) // it is not released twice
	want(t, "Unref", o.Unref(4), api.OK)
	for _, r := range []int{4, 2, 1, 3, 5} {
		wantRef(t, o, str("f"), r, api.OK)
	}
	want(t, "Unref", o.Unref(5), api.OK) // also the greatest one remains one that was in use
	want(t, "Unref", o.Unref(1), api.OK)
	for _, r := range []int{1, 5, 6} {
		wantRef(t, o, str("g"), r, api.OK)
	}
}

// TestFullOfReferences covers P18.2 for as many references as possible; names do not count there.
func TestFullOfReferences(t *testing.T) {
	o := registry.New()
	want(t, "Put", o.Put("x", num(1)), api.OK)
	for i := range api.MaxStack {
		wantRef(t, o, object(api.Table, i+1), i+1, api.OK)
	}
	for range 2 {
		wantRef(t, o, num(1), 0, api.ErrFull)
		wantRef(t, o, none, 0, api.OK)
		wantRef(t, o, object(api.Table, 0), 0, api.ErrArg)
	}
	wantLen(t, o, api.MaxStack+1)
	want(t, "Unref", o.Unref(17), api.OK)
	want(t, "Unref", o.Unref(api.MaxStack), api.OK)
	wantRef(t, o, num(2), api.MaxStack, api.OK)
	wantRef(t, o, num(3), 17, api.OK)
	wantRef(t, o, num(4), 0, api.ErrFull)
	wantValue(t, o, 17, num(3), api.OK)
	wantValue(t, o, 18, object(api.Table, 18), api.OK)
	want(t, "Put", o.Put("y", num(1)), api.OK)
	wantLen(t, o, api.MaxStack+2)
}

// TestUnref covers P18.3.
func TestUnref(t *testing.T) {
	o := keep(t, str("a"), object(api.Table, 8), str("c"))
	for range 2 {
		want(t, "Unref", o.Unref(0), api.OK)
		wantValue(t, o, 0, none, api.OK)
		wantLen(t, o, 3)
	}
	for _, r := range append(noReferences(), 4, 5) {
		want(t, "Unref", o.Unref(r), api.ErrRange)
		wantValue(t, o, r, none, api.ErrRange)
		wantLen(t, o, 3)
	}
	want(t, "Unref", o.Unref(2), api.OK)
	for range 2 {
		wantValue(t, o, 2, none, api.ErrRange)
		want(t, "Unref", o.Unref(2), api.ErrRange)
		wantLen(t, o, 2)
		wantRoots(t, o)
	}
	wantValue(t, o, 1, str("a"), api.OK)
	wantValue(t, o, 3, str("c"), api.OK)
	want(t, "Unref", o.Unref(3), api.OK)
	want(t, "Unref", o.Unref(1), api.OK)
	wantLen(t, o, 0)
	wantValue(t, o, 1, none, api.ErrRange)
}

// TestPut covers P18.4: names and values of all kinds, and those that are not accepted.
func TestPut(t *testing.T) {
	o := registry.New()
	names := []string{"", "x", "X", "x\x00", "\xff", "1", " x", long(api.MaxString - 1), long(api.MaxString)}
	for i, name := range names {
		wantFind(t, o, name, none, false)
		for _, v := range valid() {
			want(t, "Put", o.Put(name, v), api.OK)
			wantFind(t, o, name, v, true)
			for _, bad := range invalid() {
				want(t, "Put", o.Put(name, bad), api.ErrArg)
			}
			wantFind(t, o, name, v, true)
			wantLen(t, o, i+1)
		}
	}
	for _, n := range []int{api.MaxString + 1, 2 * api.MaxString, 1 << 20} {
		for _, v := range append(invalid(), none, num(1)) { // the name comes first
			want(t, "Put", o.Put(long(n), v), api.ErrLong)
		}
		wantFind(t, o, long(n), none, false)
		wantLen(t, o, len(names))
	}
	for i, name := range names {
		for range 2 { // also without a value
			want(t, "Put", o.Put(name, none), api.OK)
			wantFind(t, o, name, none, false)
			wantLen(t, o, len(names)-i-1)
		}
		want(t, "Put", o.Put(name, object(api.Data, 0)), api.ErrArg)
		wantFind(t, o, name, none, false)
	}
}

// name returns the name with a number.
func name(n int) string { return "name" + strconv.Itoa(n) }

// TestFullOfNames covers P18.4 for as many names as possible; references do not count there.
func TestFullOfNames(t *testing.T) {
	o := keep(t, num(1))
	for i := range api.MaxStack {
		want(t, "Put", o.Put(name(i), object(api.Data, i+1)), api.OK)
	}
	for range 2 {
		want(t, "Put", o.Put("more", num(1)), api.ErrFull)
		wantFind(t, o, "more", none, false)
		want(t, "Put", o.Put("more", none), api.OK)
		want(t, "Put", o.Put("more", object(api.Data, 0)), api.ErrArg)
		want(t, "Put", o.Put(long(api.MaxString+1), num(1)), api.ErrLong)
		want(t, "Put", o.Put(name(5), num(5)), api.OK)
		wantFind(t, o, name(5), num(5), true)
		wantLen(t, o, api.MaxStack+1)
	}
	want(t, "Put", o.Put(name(7), none), api.OK)
	want(t, "Put", o.Put("more", num(1)), api.OK)
	want(t, "Put", o.Put(name(7), num(1)), api.ErrFull)
	wantFind(t, o, "more", num(1), true)
	wantFind(t, o, name(7), none, false)
	wantRef(t, o, num(2), 2, api.OK)
	wantLen(t, o, api.MaxStack+2)
	if l := o.Roots(); len(l) != api.MaxStack-2 || l[0] != 1 || l[4] != 5 || l[5] != 7 || l[6] != 9 || l[len(l)-1] != api.MaxStack {
		t.Errorf("Roots: %v", l)
	}
}

// TestRoots covers P18.5 for Roots: the objects only, of references and of names, in ascending order, each once.
func TestRoots(t *testing.T) {
	o := keep(t, append(valid(), object(api.Data, 9), object(api.Table, 7), object(api.Table, 9), object(api.Thread, 1))...)
	wantRoots(t, o, 1, 2, 3, 7, 9, math.MaxInt)
	for i, v := range []api.Value{object(api.Table, 4), object(api.Function, 2), object(api.Thread, 12), object(api.Data, 11), num(20), {Kind: api.Bool, Ref: 1}, str("21"), {Kind: api.Builtin, Str: "22"}} {
		want(t, "Put", o.Put(name(i), v), api.OK)
	}
	wantRoots(t, o, 1, 2, 3, 4, 7, 9, 11, 12, math.MaxInt)
	want(t, "Put", o.Put(name(3), str("no object")), api.OK)
	want(t, "Put", o.Put(name(0), none), api.OK)
	wantRoots(t, o, 1, 2, 3, 7, 9, 12, math.MaxInt)
	for r := range len(valid()) {
		want(t, "Unref", o.Unref(r+1), api.OK)
	}
	wantRoots(t, o, 1, 2, 7, 9, 12)
	list := o.Roots()
	for i := range list { // it is new memory
		list[i] = 99
	}
	_ = append(list, 99)
	wantRoots(t, o, 1, 2, 7, 9, 12)
}

// TestNil covers the nil Registry, for which all other errors do not count.
func TestNil(t *testing.T) {
	var o *registry.Registry
	for _, v := range append(valid(), append(invalid(), none)...) {
		wantRef(t, o, v, 0, api.ErrNil)
		want(t, "Put", o.Put("x", v), api.ErrNil)
		want(t, "Put", o.Put(long(api.MaxString+1), v), api.ErrNil)
	}
	for _, r := range append(noReferences(), 0, 1) {
		want(t, "Unref", o.Unref(r), api.ErrNil)
		wantValue(t, o, r, none, api.ErrNil)
	}
	wantFind(t, o, "x", none, false)
	wantLen(t, o, 0)
	wantRoots(t, o)
}

// TestZero checks that a Registry that is not created by New is an empty one, too.
func TestZero(t *testing.T) {
	o := &registry.Registry{}
	wantFind(t, o, "x", none, false)
	want(t, "Put", o.Put("x", none), api.OK)
	want(t, "Put", o.Put("x", num(1)), api.OK)
	wantRef(t, o, object(api.Table, 3), 1, api.OK)
	wantFind(t, o, "x", num(1), true)
	wantRoots(t, o, 3)
	wantLen(t, o, 2)
}
