package heap_test

import (
	"math"
	"slices"
	"strings"
	"testing"

	"scripting/api"
	"scripting/heap"
)

// none is the value nil.
var none = api.Value{}

// num returns an integer as a value.
func num(n int) api.Value { return api.Value{Kind: api.Number, Num: api.Num{P: n, Q: 1}} }

// str returns a string as a value.
func str(s string) api.Value { return api.Value{Kind: api.String, Str: s} }

// object returns a value with an identity.
func object(kind, ref int) api.Value { return api.Value{Kind: kind, Ref: ref} }

// long returns a string of so many bytes.
func long(n int) string { return strings.Repeat("x", n) }

// want checks that a call has returned an error.
func want(t *testing.T, call string, e, want api.Errno) {
	t.Helper()
	if e != want {
		t.Errorf("%s: error %d; want %d", call, int(e), int(want))
	}
}

// made returns the value of a new object, and checks that it was created without an error.
func made(t *testing.T, v api.Value, e api.Errno) api.Value {
	t.Helper()
	if e != api.OK || v.Ref < 1 {
		t.Fatalf("new object: %v, error %d", v, int(e))
	}
	return v
}

// newTable returns a new table.
func newTable(t *testing.T, h *heap.Heap) api.Value {
	t.Helper()
	v, e := h.NewTable()
	return made(t, v, e)
}

// newFunc returns a new function.
func newFunc(t *testing.T, h *heap.Heap) api.Value {
	t.Helper()
	v, e := h.NewFunc(0)
	return made(t, v, e)
}

// newThread returns a new coroutine.
func newThread(t *testing.T, h *heap.Heap) api.Value {
	t.Helper()
	v, e := h.NewThread(0)
	return made(t, v, e)
}

// newData returns a new object of the host.
func newData(t *testing.T, h *heap.Heap) api.Value {
	t.Helper()
	v, e := h.NewData("d")
	return made(t, v, e)
}

// four returns a heap with a table, a function, a coroutine and an object of the host, which have the identities 1
// to 4.
func four(t *testing.T) (*heap.Heap, []api.Value) {
	t.Helper()
	h := heap.New()
	return h, []api.Value{newTable(t, h), newFunc(t, h), newThread(t, h), newData(t, h)}
}

// strangers returns values that denote nothing in a heap of four.
func strangers() []api.Value {
	list := []api.Value{none, {Ref: 1}, {Kind: api.Bool, Ref: 1}, num(1), str("a"), {Kind: api.Builtin, Str: "a"}, {Kind: api.Builtin, Ref: 1}, {Kind: -1, Ref: 1}, {Kind: 99, Ref: 1}, {Kind: api.String, Ref: 1}}
	for i, kind := range []int{api.Table, api.Function, api.Thread, api.Data} {
		for _, ref := range []int{math.MinInt, -1, 0, 1, 2, 3, 4, 5, math.MaxInt} {
			if ref != i+1 {
				list = append(list, object(kind, ref))
			}
		}
	}
	return list
}

// but returns values without one of them.
func but(l []api.Value, gone api.Value) []api.Value {
	return slices.DeleteFunc(l, func(v api.Value) bool { return v == gone })
}

// badElements returns values that cannot be stored, with the errors.
func badElements() map[api.Value]api.Errno {
	one := api.Num{P: 1, Q: 1}
	m := map[api.Value]api.Errno{
		str(long(api.MaxString + 1)):                             api.ErrLong,
		{Kind: api.String, Str: long(api.MaxString + 1), Ref: 1}: api.ErrLong,
	}
	for _, v := range []api.Value{
		{Ref: 1}, {Str: "a"}, {Num: one}, {Kind: api.Bool, Ref: 2}, {Kind: api.Number}, {Kind: api.Number, Num: api.Num{P: 2, Q: 2}}, {Kind: api.Number, Num: one, Ref: 1},
		{Kind: api.String, Str: "a", Ref: 1}, {Kind: api.Table}, {Kind: api.Table, Ref: 1, Str: "a"}, {Kind: api.Function, Ref: -1}, {Kind: api.Thread}, {Kind: api.Data, Ref: 1, Num: one},
		{Kind: api.Builtin}, {Kind: api.Builtin, Str: long(api.MaxString + 1)}, {Kind: -1}, {Kind: 99, Ref: 1}, {Kind: 99, Str: long(api.MaxString + 1)},
	} {
		m[v] = api.ErrArg
	}
	return m
}

// elements returns values that can be stored. Some of them denote nothing in the heap.
func elements() []api.Value {
	return []api.Value{none, {Kind: api.Bool}, {Kind: api.Bool, Ref: 1}, num(-7), {Kind: api.Number, Num: api.Num{P: 1, Q: 2}}, str(""), str("a"), str(long(api.MaxString)), {Kind: api.Builtin, Str: long(api.MaxString)},
		object(api.Table, 1), object(api.Function, 2), object(api.Thread, 3), object(api.Data, 4), object(api.Table, 4), object(api.Function, 99), object(api.Data, math.MaxInt)}
}

// wantIDs checks a list of identities.
func wantIDs(t *testing.T, what string, list []int, want ...int) {
	t.Helper()
	if !slices.Equal(list, want) {
		t.Errorf("%s: %v; want %v", what, list, want)
	}
}

// TestNew covers P14.1 and P14.8 for an empty heap, and that heaps share nothing.
func TestNew(t *testing.T) {
	a, b := heap.New(), heap.New()
	newTable(t, a)
	newTable(t, a)
	wantIDs(t, "IDs", b.IDs())
	wantIDs(t, "Touched", b.Touched())
	if b.Count() != 0 || b.Size() != 0 || b.Alive(1) {
		t.Errorf("Count %d, Size %d", b.Count(), b.Size())
	}
	if v := newData(t, b); v != object(api.Data, 1) {
		t.Errorf("NewData: %v", v)
	}
	wantIDs(t, "IDs", a.IDs(), 1, 2)
}

// TestNewObjects covers P14.1 and P14.2: the values of new objects, with any tag and any name that is not too long.
func TestNewObjects(t *testing.T) {
	h := heap.New()
	id := 0
	check := func(kind int, v api.Value, e api.Errno) {
		t.Helper()
		id++
		if v != object(kind, id) || e != api.OK || !h.Alive(id) || h.Count() != id {
			t.Errorf("kind %d: %v, error %d; want the identity %d", kind, v, int(e), id)
		}
	}
	for _, tag := range []int{0, 1, -1, 7, math.MinInt, math.MaxInt} {
		v, e := h.NewFunc(tag)
		check(api.Function, v, e)
		if got, found := h.Tag(v); got != tag || !found {
			t.Errorf("Tag of a function: %d, %v; want %d", got, found, tag)
		}
		v, e = h.NewThread(tag)
		check(api.Thread, v, e)
		if got, found := h.Tag(v); got != tag || !found {
			t.Errorf("Tag of a coroutine: %d, %v; want %d", got, found, tag)
		}
		v, e = h.NewTable()
		check(api.Table, v, e)
	}
	for _, name := range []string{"", "file", "no name\x00", long(api.MaxName)} {
		v, e := h.NewData(name)
		check(api.Data, v, e)
		if got, found := h.Name(v); got != name || !found {
			t.Errorf("Name: %q, %v; want %q", got, found, name)
		}
	}
	v, e := h.NewData(long(api.MaxName + 1))
	want(t, "NewData", e, api.ErrLong)
	if v != none || h.Count() != id {
		t.Errorf("NewData: %v; Count %d", v, h.Count())
	}
	v, e = h.NewTable()
	check(api.Table, v, e) // the error has not used an identity
}

// TestFull covers P14.1 for a heap with MaxObjects objects, and P14.9.
func TestFull(t *testing.T) {
	h := heap.New()
	for range api.MaxObjects {
		newFunc(t, h)
	}
	full := func(call string, v api.Value, e api.Errno, code api.Errno) {
		t.Helper()
		want(t, call, e, code)
		if v != none || h.Count() != api.MaxObjects {
			t.Errorf("%s: %v; Count %d", call, v, h.Count())
		}
	}
	v, e := h.NewTable()
	full("NewTable", v, e, api.ErrFull)
	v, e = h.NewFunc(1)
	full("NewFunc", v, e, api.ErrFull)
	v, e = h.NewThread(1)
	full("NewThread", v, e, api.ErrFull)
	v, e = h.NewData("a")
	full("NewData", v, e, api.ErrFull)
	v, e = h.NewData(long(api.MaxName + 1))
	full("NewData", v, e, api.ErrLong)
	if l := h.Touched(); len(l) != api.MaxObjects || !slices.IsSorted(l) || l[0] != 1 {
		t.Errorf("Touched: %d identities", len(l))
	}
	want(t, "Drop", h.Drop(17), api.OK)
	if v := newTable(t, h); v != object(api.Table, api.MaxObjects+1) {
		t.Errorf("NewTable: %v", v)
	}
	v, e = h.NewTable()
	full("NewTable", v, e, api.ErrFull)
	if l := h.IDs(); len(l) != api.MaxObjects || !slices.IsSorted(l) || l[15] != 16 || l[16] != 18 || l[len(l)-1] != api.MaxObjects+1 {
		t.Errorf("IDs: %d identities", len(l))
	}
	wantIDs(t, "Touched", h.Touched(), api.MaxObjects+1)
}

// TestIdentitiesAreNotUsedAgain covers P14.1 and P14.9.
func TestIdentitiesAreNotUsedAgain(t *testing.T) {
	h := heap.New()
	for id := 1; id < 100; id++ {
		if v := newTable(t, h); v.Ref != id {
			t.Fatalf("NewTable: %v; want %d", v, id)
		}
		want(t, "Drop", h.Drop(id), api.OK)
	}
	if h.Count() != 0 || h.Size() != 0 {
		t.Errorf("Count %d, Size %d", h.Count(), h.Size())
	}
}

// TestNil covers a nil heap, for the methods of all promises.
func TestNil(t *testing.T) {
	var h *heap.Heap
	a := object(api.Table, 1)
	var list []api.Value
	note := func(call string, v api.Value, e api.Errno) {
		t.Helper()
		want(t, call, e, api.ErrNil)
		list = append(list, v)
	}
	v, e := h.NewTable()
	note("NewTable", v, e)
	v, e = h.NewFunc(1)
	note("NewFunc", v, e)
	v, e = h.NewThread(1)
	note("NewThread", v, e)
	v, e = h.NewData(long(api.MaxName + 1))
	note("NewData", v, e)
	v, e = h.Get(a, num(1))
	note("Get", v, e)
	v, e = h.Remove(a, 1)
	note("Remove", v, e)
	v, e = h.Slot(a, 0)
	note("Slot", v, e)
	for _, v := range append(list, h.Meta(a)) {
		if v != none {
			t.Errorf("a value: %v", v)
		}
	}
	want(t, "Set", h.Set(a, none, num(1)), api.ErrNil)
	want(t, "Insert", h.Insert(a, 0, num(1)), api.ErrNil)
	want(t, "SetMeta", h.SetMeta(a, a), api.ErrNil)
	want(t, "SetSlot", h.SetSlot(a, 0, num(1)), api.ErrNil)
	want(t, "SetRefs", h.SetRefs(a, nil), api.ErrNil)
	want(t, "Drop", h.Drop(1), api.ErrNil)
	if n, e := h.Len(a); n != 0 || e != api.ErrNil {
		t.Errorf("Len: %d, error %d", n, int(e))
	}
	if k, v, found, e := h.Next(a, none); k != none || v != none || found || e != api.ErrNil {
		t.Errorf("Next: %v, %v, %v, error %d", k, v, found, int(e))
	}
	if tag, found := h.Tag(a); tag != 0 || found {
		t.Errorf("Tag: %d, %v", tag, found)
	}
	if name, found := h.Name(a); name != "" || found {
		t.Errorf("Name: %q, %v", name, found)
	}
	if g, found := h.Object(1, 0); g.ID != 0 || g.Size != 0 || g.Weak != 0 || len(g.Refs)+len(g.Entries) != 0 || found {
		t.Errorf("Object: %v, %v", g, found)
	}
	if h.Alive(1) || h.Count() != 0 || h.Size() != 0 || len(h.IDs()) != 0 || len(h.Touched()) != 0 {
		t.Errorf("Alive %v, Count %d, Size %d, IDs %v", h.Alive(1), h.Count(), h.Size(), h.IDs())
	}
}

// TestTagAndName covers P14.2 for values that denote no function or coroutine, or no host object.
func TestTagAndName(t *testing.T) {
	h, all := four(t)
	for _, v := range append(strangers(), all[0], all[3]) {
		if tag, found := h.Tag(v); tag != 0 || found {
			t.Errorf("Tag(%v): %d, %v", v, tag, found)
		}
	}
	for _, v := range append(strangers(), all[:3]...) {
		if name, found := h.Name(v); name != "" || found {
			t.Errorf("Name(%v): %q, %v", v, name, found)
		}
	}
	f, _ := h.NewFunc(7)
	want(t, "Drop", h.Drop(f.Ref), api.OK)
	if tag, found := h.Tag(f); tag != 0 || found {
		t.Errorf("Tag of a dropped function: %d, %v", tag, found)
	}
}

// TestFields covers P14.3: the example, and fields of different kinds.
func TestFields(t *testing.T) {
	h := heap.New()
	a, b := newTable(t, h), newTable(t, h)
	if a != object(api.Table, 1) {
		t.Errorf("NewTable: %v", a)
	}
	want(t, "Set", h.Set(a, num(1), str("a")), api.OK)
	wantGet(t, h, a, num(1), str("a"))
	wantGet(t, h, b, num(1), none)
	wantLen(t, h, a, 1)
	wantLen(t, h, b, 0)
	for _, x := range elements() {
		want(t, "Set", h.Set(a, str("k"), x), api.OK)
		wantGet(t, h, a, str("k"), x)
		if x != none {
			want(t, "Set", h.Set(b, x, a), api.OK)
			wantGet(t, h, b, x, a)
		}
	}
	for x := range badElements() {
		wantGet(t, h, a, x, none)
	}
	want(t, "Set", h.Set(a, num(1), none), api.OK)
	wantGet(t, h, a, num(1), none)
	wantLen(t, h, a, 0)
}

// wantGet checks the value of a field.
func wantGet(t *testing.T, h *heap.Heap, a, k, want api.Value) {
	t.Helper()
	if v, e := h.Get(a, k); v != want || e != api.OK {
		t.Errorf("Get(%v, %.99v): %.99v, error %d; want %.99v", a, k, v, int(e), want)
	}
}

// wantLen checks the border of a table.
func wantLen(t *testing.T, h *heap.Heap, a api.Value, want int) {
	t.Helper()
	if n, e := h.Len(a); n != want || e != api.OK {
		t.Errorf("Len(%v): %d, error %d; want %d", a, n, int(e), want)
	}
}

// wantNext checks the entry after a key.
func wantNext(t *testing.T, h *heap.Heap, a, k, wantKey, wantValue api.Value) {
	t.Helper()
	if next, v, found, e := h.Next(a, k); next != wantKey || v != wantValue || !found || e != api.OK {
		t.Errorf("Next(%v): %v, %v, %v, error %d; want %v, %v", k, next, v, found, int(e), wantKey, wantValue)
	}
}

// wantNoNext checks that there is no entry after a key, with an error or without.
func wantNoNext(t *testing.T, h *heap.Heap, a, k api.Value, want api.Errno) {
	t.Helper()
	if next, v, found, e := h.Next(a, k); next != none || v != none || found || e != want {
		t.Errorf("Next(%.99v): %v, %v, %v, error %d; want error %d", k, next, v, found, int(e), int(want))
	}
}

// TestNext covers P14.3 for Next.
func TestNext(t *testing.T) {
	h := heap.New()
	a := newTable(t, h)
	wantNoNext(t, h, a, none, api.OK)
	want(t, "Set", h.Set(a, str("x"), num(9)), api.OK)
	want(t, "Set", h.Set(a, num(1), num(8)), api.OK)
	wantNext(t, h, a, none, num(1), num(8))
	wantNext(t, h, a, num(1), str("x"), num(9))
	wantNext(t, h, a, num(5), str("x"), num(9))
	wantNoNext(t, h, a, str("x"), api.OK)
	wantNoNext(t, h, a, str("y"), api.ErrKey)
	for k := range badElements() {
		wantNoNext(t, h, a, k, api.ErrKey)
	}
}

// TestInsertAndRemove covers P14.3 for Insert and Remove.
func TestInsertAndRemove(t *testing.T) {
	h := heap.New()
	a := newTable(t, h)
	for at, v := range []api.Value{num(7), num(8), num(9)} {
		want(t, "Insert", h.Insert(a, at+1, v), api.OK)
	}
	want(t, "Insert", h.Insert(a, 2, num(5)), api.OK)
	want(t, "Insert", h.Insert(a, 1, none), api.OK)
	for i, v := range []api.Value{none, num(7), num(5), num(8), num(9), none} {
		wantGet(t, h, a, num(i+1), v)
	}
	if v, e := h.Remove(a, 2); v != num(7) || e != api.OK {
		t.Errorf("Remove: %v, error %d", v, int(e))
	}
	wantGet(t, h, a, num(2), num(5))
	wantLen(t, h, a, 4)
	for _, at := range []int{math.MinInt, -1, 0, 6, math.MaxInt} {
		want(t, "Insert", h.Insert(a, at, num(1)), api.ErrRange)
	}
	for _, at := range []int{math.MinInt, -1, 0, 5, math.MaxInt} {
		if v, e := h.Remove(a, at); v != none || e != api.ErrRange {
			t.Errorf("Remove(%d): %v, error %d", at, v, int(e))
		}
	}
	wantLen(t, h, a, 4)
}

// TestErrorsOfFields covers the errors of P14.3, and their order; nothing changes.
func TestErrorsOfFields(t *testing.T) {
	h, all := four(t)
	want(t, "Set", h.Set(all[0], num(1), str("a")), api.OK)
	h.Touched()
	size, tooLong := h.Size(), str(long(api.MaxString+1))
	for _, v := range append(strangers(), all[1:]...) {
		wantNoTable(t, h, v)
	}
	for k := range badElements() {
		want(t, "Set of a key", h.Set(all[0], k, tooLong), api.ErrKey)
		want(t, "Set of a key", h.Set(all[0], k, none), api.ErrKey)
	}
	want(t, "Set of nil", h.Set(all[0], none, tooLong), api.ErrKey)
	want(t, "Set of nil", h.Set(all[0], none, none), api.ErrKey)
	for x, e := range badElements() {
		want(t, "Set", h.Set(all[0], num(1), x), e)
		want(t, "Set", h.Set(all[0], num(2), x), e)
		want(t, "Set", h.Set(all[0], str("k"), x), e)
		want(t, "Insert", h.Insert(all[0], 1, x), e)
		want(t, "Insert", h.Insert(all[0], 2, x), e)
		want(t, "Insert", h.Insert(all[0], 99, x), e) // not the error of the table
	}
	wantGet(t, h, all[0], num(1), str("a"))
	wantLen(t, h, all[0], 1)
	wantIDs(t, "Touched", h.Touched())
	if h.Size() != size {
		t.Errorf("Size %d; want %d", h.Size(), size)
	}
}

// wantNoTable checks that a value denotes no table.
func wantNoTable(t *testing.T, h *heap.Heap, v api.Value) {
	t.Helper()
	tooLong := str(long(api.MaxString + 1))
	if x, e := h.Get(v, num(1)); x != none || e != api.ErrType {
		t.Errorf("Get(%v): %v, error %d", v, x, int(e))
	}
	if x, e := h.Remove(v, 0); x != none || e != api.ErrType {
		t.Errorf("Remove(%v): %v, error %d", v, x, int(e))
	}
	if n, e := h.Len(v); n != 0 || e != api.ErrType {
		t.Errorf("Len(%v): %d, error %d", v, n, int(e))
	}
	wantNoNext(t, h, v, none, api.ErrType)
	wantNoNext(t, h, v, str("y"), api.ErrType)
	want(t, "Set", h.Set(v, none, tooLong), api.ErrType)
	want(t, "Insert", h.Insert(v, 0, tooLong), api.ErrType)
}

// TestMeta covers P14.4.
func TestMeta(t *testing.T) {
	h, all := four(t)
	meta := newTable(t, h)
	for _, v := range []api.Value{all[0], all[3], meta} {
		if m := h.Meta(v); m != none {
			t.Errorf("Meta(%v): %v", v, m)
		}
		for _, m := range []api.Value{meta, all[0], none, none, meta} {
			want(t, "SetMeta", h.SetMeta(v, m), api.OK)
			if got := h.Meta(v); got != m {
				t.Errorf("Meta(%v): %v; want %v", v, got, m)
			}
		}
	}
	for _, v := range append(but(strangers(), meta), all[1], all[2]) {
		want(t, "SetMeta", h.SetMeta(v, meta), api.ErrType)
		want(t, "SetMeta", h.SetMeta(v, none), api.ErrType)
		if m := h.Meta(v); m != none {
			t.Errorf("Meta(%v): %v", v, m)
		}
	}
	h.Touched()
	for _, m := range append(but(but(strangers(), meta), none), all[1:]...) {
		want(t, "SetMeta", h.SetMeta(all[0], m), api.ErrType)
		want(t, "SetMeta", h.SetMeta(all[3], m), api.ErrType)
	}
	wantIDs(t, "Touched", h.Touched())
	if h.Meta(all[0]) != meta || h.Meta(all[3]) != meta {
		t.Errorf("Meta: %v, %v", h.Meta(all[0]), h.Meta(all[3]))
	}
	odd := api.Value{Kind: api.Table, Ref: 5, Str: "a"} // it denotes the same table
	want(t, "SetMeta", h.SetMeta(all[0], odd), api.OK)
	if h.Meta(all[0]) != odd {
		t.Errorf("Meta: %v", h.Meta(all[0]))
	}
	want(t, "SetMeta", h.SetMeta(all[0], meta), api.OK)
	want(t, "Drop", h.Drop(meta.Ref), api.OK)
	want(t, "SetMeta", h.SetMeta(all[0], meta), api.ErrType)
	if h.Meta(all[0]) != meta { // the reference remains
		t.Errorf("Meta: %v", h.Meta(all[0]))
	}
	want(t, "Drop", h.Drop(all[0].Ref), api.OK)
	if h.Meta(all[0]) != none {
		t.Errorf("Meta of a dropped table: %v", h.Meta(all[0]))
	}
}

// TestSlots covers P14.5 for Slot and SetSlot.
func TestSlots(t *testing.T) {
	h, all := four(t)
	d, other := all[3], newData(t, h)
	for _, x := range elements() {
		for i := 1; i <= 16; i++ {
			want(t, "SetSlot", h.SetSlot(d, i, x), api.OK)
			wantSlot(t, h, d, i, x)
			wantSlot(t, h, other, i, none)
		}
	}
	for i := 1; i <= 16; i++ {
		want(t, "SetSlot", h.SetSlot(d, i, num(i)), api.OK)
	}
	h.Touched()
	for _, i := range []int{math.MinInt, -1, 0, 17, math.MaxInt} {
		if v, e := h.Slot(d, i); v != none || e != api.ErrRange {
			t.Errorf("Slot(%d): %v, error %d", i, v, int(e))
		}
		want(t, "SetSlot", h.SetSlot(d, i, num(1)), api.ErrRange)
		want(t, "SetSlot", h.SetSlot(d, i, str(long(api.MaxString+1))), api.ErrRange)
	}
	for x, e := range badElements() {
		want(t, "SetSlot", h.SetSlot(d, 3, x), e)
	}
	for _, v := range append(strangers()[:10], all[:3]...) {
		for _, i := range []int{0, 1, 17} {
			if x, e := h.Slot(v, i); x != none || e != api.ErrType {
				t.Errorf("Slot(%v, %d): %v, error %d", v, i, x, int(e))
			}
			want(t, "SetSlot", h.SetSlot(v, i, str(long(api.MaxString+1))), api.ErrType)
		}
	}
	for i := 1; i <= 16; i++ {
		wantSlot(t, h, d, i, num(i))
	}
	wantIDs(t, "Touched", h.Touched())
}

// wantSlot checks a user value.
func wantSlot(t *testing.T, h *heap.Heap, d api.Value, i int, want api.Value) {
	t.Helper()
	if v, e := h.Slot(d, i); v != want || e != api.OK {
		t.Errorf("Slot(%v, %d): %.99v, error %d; want %.99v", d, i, v, int(e), want)
	}
}

// TestDrop covers P14.6, and that what denoted the object denotes nothing any more.
func TestDrop(t *testing.T) {
	h, all := four(t)
	b := newTable(t, h)
	want(t, "Set", h.Set(b, num(1), all[0]), api.OK)
	for _, id := range []int{math.MinInt, -1, 0, 6, math.MaxInt} {
		want(t, "Drop", h.Drop(id), api.ErrDead)
		if h.Alive(id) {
			t.Errorf("Alive(%d)", id)
		}
	}
	wantIDs(t, "IDs", h.IDs(), 1, 2, 3, 4, 5)
	left := []int{1, 2, 3, 4, 5}
	for _, id := range []int{3, 1, 4, 2} {
		if !h.Alive(id) {
			t.Errorf("not Alive(%d)", id)
		}
		want(t, "Drop", h.Drop(id), api.OK)
		want(t, "Drop", h.Drop(id), api.ErrDead)
		left = slices.DeleteFunc(left, func(other int) bool { return other == id })
		wantIDs(t, "IDs", h.IDs(), left...)
		if h.Alive(id) || h.Count() != len(left) {
			t.Errorf("Alive(%d) %v, Count %d", id, h.Alive(id), h.Count())
		}
		if _, found := h.Object(id, 0); found {
			t.Errorf("Object(%d)", id)
		}
	}
	wantNoTable(t, h, all[0])
	wantGet(t, h, b, num(1), all[0])
	if v := newTable(t, h); v.Ref != 6 {
		t.Errorf("NewTable: %v", v)
	}
}
