package heap_test

import (
	"math"
	"slices"
	"testing"

	"scripting/api"
	"scripting/heap"
)

// wantObject checks an object of the graph.
func wantObject(t *testing.T, h *heap.Heap, weak int, want api.Object) {
	t.Helper()
	g, found := h.Object(want.ID, weak)
	if !found || g.ID != want.ID || g.Size != want.Size || g.Weak != want.Weak || !slices.Equal(g.Refs, want.Refs) || !slices.Equal(g.Entries, want.Entries) {
		t.Errorf("Object(%d, %d): %v, %v; want %v", want.ID, weak, g, found, want)
	}
}

// TestObject covers P14.7 for objects without references, and for those that do not exist.
func TestObject(t *testing.T) {
	h, _ := four(t)
	for _, weak := range []int{math.MinInt, -1, api.Strong, api.WeakKeys, api.WeakVals, api.WeakBoth, 4, math.MaxInt} {
		ofTable := weak
		if weak < api.Strong || weak > api.WeakBoth {
			ofTable = api.Strong
		}
		wantObject(t, h, weak, api.Object{ID: 1, Size: 12, Weak: ofTable})
		wantObject(t, h, weak, api.Object{ID: 2, Size: 8})
		wantObject(t, h, weak, api.Object{ID: 3, Size: 16})
		wantObject(t, h, weak, api.Object{ID: 4, Size: 12})
		for _, id := range []int{math.MinInt, -1, 0, 5, math.MaxInt} {
			if g, found := h.Object(id, weak); found || g.ID != 0 || g.Size != 0 || g.Weak != 0 || len(g.Refs) != 0 || len(g.Entries) != 0 {
				t.Errorf("Object(%d): %v, %v", id, g, found)
			}
		}
	}
}

// TestObjectOfTable covers P14.7 for a table: the entries in the order of Next, with 0 for what is no object.
func TestObjectOfTable(t *testing.T) {
	h, all := four(t)
	a, b := all[0], newTable(t, h)
	set := func(k, v api.Value) {
		t.Helper()
		want(t, "Set", h.Set(a, k, v), api.OK)
	}
	set(all[1], str("x"))
	set(str("k"), all[2])
	set(str("gone"), all[2])
	set(str("gone"), none)
	set(all[3], all[3])
	set(api.Value{Kind: api.Bool, Ref: 1}, num(1))
	set(api.Value{Kind: api.Builtin, Str: "f"}, api.Value{Kind: api.Builtin, Str: "g"})
	set(num(1), a)
	set(num(2), num(5))
	set(num(3), object(api.Thread, 77)) // it denotes nothing
	set(object(api.Data, 78), object(api.Table, 79))
	size := 8 + 4 + 2*3 + 4*7
	entries := []api.Entry{{Val: 1}, {Val: 77}, {Key: 2}, {Val: 3}, {Key: 4, Val: 4}, {Key: 78, Val: 79}}
	wantObject(t, h, api.WeakVals, api.Object{ID: 1, Size: size, Weak: api.WeakVals, Entries: entries})
	want(t, "SetMeta", h.SetMeta(a, b), api.OK)
	wantObject(t, h, api.Strong, api.Object{ID: 1, Size: size, Refs: []int{5}, Entries: entries})
	want(t, "Drop", h.Drop(b.Ref), api.OK) // the reference remains
	want(t, "Drop", h.Drop(3), api.OK)
	wantObject(t, h, api.WeakBoth, api.Object{ID: 1, Size: size, Weak: api.WeakBoth, Refs: []int{5}, Entries: entries})
	want(t, "SetMeta", h.SetMeta(a, none), api.OK)
	wantObject(t, h, 9, api.Object{ID: 1, Size: size, Entries: entries})
}

// TestObjectOfData covers P14.7 for a host object: the metatable, and then the user values by number.
func TestObjectOfData(t *testing.T) {
	h, all := four(t)
	d := all[3]
	for i, x := range map[int]api.Value{16: all[1], 15: num(9), 2: d, 1: all[2], 7: all[2], 8: {Kind: api.Builtin, Str: "f"}, 9: object(api.Table, 99)} {
		want(t, "SetSlot", h.SetSlot(d, i, x), api.OK)
	}
	wantObject(t, h, api.WeakKeys, api.Object{ID: 4, Size: 12, Refs: []int{3, 4, 3, 99, 2}})
	want(t, "SetMeta", h.SetMeta(d, all[0]), api.OK)
	wantObject(t, h, api.Strong, api.Object{ID: 4, Size: 12, Refs: []int{1, 3, 4, 3, 99, 2}})
	want(t, "SetSlot", h.SetSlot(d, 7, none), api.OK)
	wantObject(t, h, api.Strong, api.Object{ID: 4, Size: 12, Refs: []int{1, 3, 4, 99, 2}})
}

// TestSetRefs covers P14.5 for SetRefs, P14.7 and P14.8 for functions and coroutines.
func TestSetRefs(t *testing.T) {
	for i, size := range map[int]int{1: 8, 2: 16} {
		h, all := four(t)
		v, id := all[i], i+1
		refs := append(elements(), v, all[0], all[0])
		want(t, "SetRefs", h.SetRefs(v, refs), api.OK)
		ids := []int{1, 2, 3, 4, 4, 99, math.MaxInt, id, 1, 1}
		wantObject(t, h, api.WeakBoth, api.Object{ID: id, Size: size + len(refs), Refs: ids})
		for i := range refs { // the list is not retained
			refs[i] = num(1)
		}
		wantObject(t, h, api.Strong, api.Object{ID: id, Size: size + len(refs), Refs: ids})
		h.Touched()
		for x, e := range badElements() {
			want(t, "SetRefs", h.SetRefs(v, []api.Value{x}), e)
			want(t, "SetRefs", h.SetRefs(v, []api.Value{num(1), x, {Ref: 1}, str(long(api.MaxString + 1))}), e)
		}
		for _, other := range append(strangers(), all[0], all[3]) {
			want(t, "SetRefs", h.SetRefs(other, nil), api.ErrType)
			want(t, "SetRefs", h.SetRefs(other, []api.Value{{Ref: 1}}), api.ErrType)
		}
		wantIDs(t, "Touched", h.Touched())
		wantObject(t, h, api.Strong, api.Object{ID: id, Size: size + len(refs), Refs: ids})
		want(t, "SetRefs", h.SetRefs(v, []api.Value{num(1), all[3], none}), api.OK)
		wantObject(t, h, api.Strong, api.Object{ID: id, Size: size + 3, Refs: []int{4}})
		for _, none := range [][]api.Value{nil, {}} {
			want(t, "SetRefs", h.SetRefs(v, none), api.OK)
			wantObject(t, h, api.Strong, api.Object{ID: id, Size: size})
		}
		if h.Size() != 12+8+16+12 {
			t.Errorf("Size %d", h.Size())
		}
	}
}

// TestResultsAreNew covers the rule of the document that a result shares no memory with others.
func TestResultsAreNew(t *testing.T) {
	h, all := four(t)
	want(t, "SetRefs", h.SetRefs(all[1], []api.Value{all[0], all[2]}), api.OK)
	want(t, "Set", h.Set(all[0], num(1), all[2]), api.OK)
	for range 2 {
		f, _ := h.Object(2, 0)
		a, _ := h.Object(1, 0)
		ids := h.IDs()
		for _, list := range [][]int{f.Refs, ids} {
			for i := range list {
				list[i] = 9
			}
			_ = append(list, 9)
		}
		a.Entries[0] = api.Entry{Key: 9, Val: 9}
	}
	wantObject(t, h, 0, api.Object{ID: 2, Size: 10, Refs: []int{1, 3}})
	wantObject(t, h, 0, api.Object{ID: 1, Size: 14, Entries: []api.Entry{{Val: 3}}})
	wantIDs(t, "IDs", h.IDs(), 1, 2, 3, 4)
	l := h.Touched()
	l[0] = 9
	want(t, "SetRefs", h.SetRefs(all[1], nil), api.OK)
	wantIDs(t, "Touched", h.Touched(), 2)
	wantIDs(t, "Touched before", l, 9, 2, 3, 4)
}

// TestTouched covers P14.12: the example, and which calls touch which objects.
func TestTouched(t *testing.T) {
	h := heap.New()
	a := newTable(t, h)
	wantIDs(t, "Touched", h.Touched(), 1)
	wantIDs(t, "Touched", h.Touched())
	f, c, d := newFunc(t, h), newThread(t, h), newData(t, h)
	wantIDs(t, "Touched", h.Touched(), 2, 3, 4)
	for name, touching := range map[string]func() (int, api.Errno){
		"Set":                       func() (int, api.Errno) { return 1, h.Set(a, num(1), num(1)) },
		"Set of the same":           func() (int, api.Errno) { return 1, h.Set(a, num(1), num(1)) },
		"Set of nil":                func() (int, api.Errno) { return 1, h.Set(a, str("k"), none) },
		"Insert":                    func() (int, api.Errno) { return 1, h.Insert(a, 1, num(1)) },
		"Insert of nil":             func() (int, api.Errno) { return 1, h.Insert(a, 1, none) },
		"SetMeta":                   func() (int, api.Errno) { return 1, h.SetMeta(a, a) },
		"SetMeta of nil":            func() (int, api.Errno) { return 1, h.SetMeta(a, none) },
		"SetMeta of a host object":  func() (int, api.Errno) { return 4, h.SetMeta(d, a) },
		"SetSlot":                   func() (int, api.Errno) { return 4, h.SetSlot(d, 1, num(1)) },
		"SetSlot of nil":            func() (int, api.Errno) { return 4, h.SetSlot(d, 1, none) },
		"SetRefs of a function":     func() (int, api.Errno) { return 2, h.SetRefs(f, []api.Value{a}) },
		"SetRefs of a coroutine":    func() (int, api.Errno) { return 3, h.SetRefs(c, nil) },
		"SetRefs of the same again": func() (int, api.Errno) { return 2, h.SetRefs(f, []api.Value{a}) },
	} {
		id, e := touching()
		want(t, name, e, api.OK)
		wantIDs(t, name+": Touched", h.Touched(), id)
		wantIDs(t, name+": Touched again", h.Touched())
	}
	want(t, "Insert", h.Insert(a, 1, num(1)), api.OK)
	h.Touched()
	if _, e := h.Remove(a, 1); e != api.OK {
		t.Errorf("Remove: error %d", int(e))
	}
	wantIDs(t, "Touched", h.Touched(), 1)
}

// TestTouchedByNothing covers P14.12 for calls that touch nothing: those that only look, and those with an error.
func TestTouchedByNothing(t *testing.T) {
	h, all := four(t)
	want(t, "Set", h.Set(all[0], num(1), num(1)), api.OK)
	h.Touched()
	h.Get(all[0], num(1))
	h.Len(all[0])
	h.Next(all[0], none)
	h.Meta(all[0])
	h.Slot(all[3], 1)
	h.Tag(all[1])
	h.Name(all[3])
	h.Object(1, 0)
	h.IDs()
	want(t, "Set", h.Set(all[0], none, num(1)), api.ErrKey)
	want(t, "Set", h.Set(all[0], num(1), api.Value{Ref: 1}), api.ErrArg)
	want(t, "Set", h.Set(all[1], num(1), num(1)), api.ErrType)
	want(t, "Insert", h.Insert(all[0], 3, num(1)), api.ErrRange)
	want(t, "Insert", h.Insert(all[0], 1, api.Value{Ref: 1}), api.ErrArg)
	want(t, "SetMeta", h.SetMeta(all[0], num(1)), api.ErrType)
	want(t, "SetMeta", h.SetMeta(all[3], num(1)), api.ErrType)
	want(t, "SetSlot", h.SetSlot(all[3], 17, num(1)), api.ErrRange)
	want(t, "SetSlot", h.SetSlot(all[3], 1, api.Value{Ref: 1}), api.ErrArg)
	want(t, "SetRefs", h.SetRefs(all[1], []api.Value{{Ref: 1}}), api.ErrArg)
	_, e := h.Remove(all[0], 2)
	want(t, "Remove", e, api.ErrRange)
	_, e = h.NewData(long(api.MaxName + 1))
	want(t, "NewData", e, api.ErrLong)
	want(t, "Drop", h.Drop(9), api.ErrDead)
	wantIDs(t, "Touched", h.Touched())
}

// TestTouchedAndDropped covers P14.12 for objects that are dropped after they were touched: only those that exist are
// named, in ascending order and each once.
func TestTouchedAndDropped(t *testing.T) {
	h := heap.New()
	for range 20 {
		newTable(t, h)
	}
	for _, id := range []int{7, 20, 1, 12} {
		want(t, "Drop", h.Drop(id), api.OK)
	}
	wantIDs(t, "Touched", h.Touched(), 2, 3, 4, 5, 6, 8, 9, 10, 11, 13, 14, 15, 16, 17, 18, 19)
	for _, id := range []int{19, 3, 11, 3, 8, 19, 5, 2} {
		want(t, "Set", h.Set(object(api.Table, id), num(1), num(1)), api.OK)
	}
	want(t, "Drop", h.Drop(11), api.OK)
	want(t, "Drop", h.Drop(4), api.OK)
	wantIDs(t, "Touched", h.Touched(), 2, 3, 5, 8, 19)
	want(t, "Set", h.Set(object(api.Table, 8), num(1), num(1)), api.OK)
	want(t, "Drop", h.Drop(8), api.OK)
	wantIDs(t, "Touched", h.Touched())
}

// TestSize covers P14.8 and the example of chapter 13 for the sizes.
func TestSize(t *testing.T) {
	h := heap.New()
	size, a := 0, newTable(t, h)
	grow := func(what string, by int) {
		t.Helper()
		size += by
		if h.Size() != size {
			t.Errorf("%s: Size %d; want %d", what, h.Size(), size)
		}
	}
	grow("a table", 12)
	f := newFunc(t, h)
	grow("a function", 8)
	c := newThread(t, h)
	grow("a coroutine", 16)
	newData(t, h)
	grow("a host object", 12)
	for i, by := range []int{4, 4, 4 * -2} {
		want(t, "Set", h.Set(a, num(3-i), num(1)), api.OK)
		if i == 2 {
			by += 2 * 3
		}
		grow("a field", by)
	}
	want(t, "Insert", h.Insert(a, 2, num(1)), api.OK)
	grow("Insert", 2)
	want(t, "Set", h.Set(a, str("k"), num(1)), api.OK)
	grow("a slot", 4)
	want(t, "Set", h.Set(a, str("k"), none), api.OK)
	grow("a removed slot", 0)
	if _, e := h.Remove(a, 1); e != api.OK {
		t.Errorf("Remove: error %d", int(e))
	}
	grow("Remove", -2)
	want(t, "SetRefs", h.SetRefs(f, []api.Value{a, none, num(1)}), api.OK)
	grow("SetRefs", 3)
	want(t, "SetRefs", h.SetRefs(c, []api.Value{a, a}), api.OK)
	grow("SetRefs", 2)
	want(t, "SetRefs", h.SetRefs(f, []api.Value{a}), api.OK)
	grow("SetRefs", -2)
	want(t, "SetMeta", h.SetMeta(a, a), api.OK)
	grow("SetMeta", 0)
	want(t, "Drop", h.Drop(c.Ref), api.OK)
	grow("Drop", -18)
	want(t, "Drop", h.Drop(a.Ref), api.OK)
	grow("Drop", -(12 + 2*3 + 4))
	want(t, "Drop", h.Drop(f.Ref), api.OK)
	grow("Drop", -9)
	if h.Count() != 1 || h.Size() != 12 {
		t.Errorf("Count %d, Size %d", h.Count(), h.Size())
	}
}
