package heap_test

import (
	"maps"
	"slices"
	"testing"

	"scripting/api"
	"scripting/heap"
	"scripting/table"
)

// thing is an object of a model.
type thing struct {
	value  api.Value
	number int // the tag, or the number of bytes of the name
	fields *table.Table
	meta   api.Value
	slots  map[int]api.Value
	refs   []api.Value
}

// model is a heap as the chapter describes it.
type model struct {
	things  map[int]*thing
	last    int
	touched map[int]bool
}

// newModel returns a model of an empty heap.
func newModel() *model { return &model{things: map[int]*thing{}, touched: map[int]bool{}} }

// create adds an object, and returns its value.
func (m *model) create(kind, number int) api.Value {
	m.last++
	v := object(kind, m.last)
	m.things[m.last] = &thing{value: v, number: number, fields: table.New(), slots: map[int]api.Value{}}
	m.touched[m.last] = true
	return v
}

// denoted returns what a value denotes, if that is of one of some kinds.
func (m *model) denoted(v api.Value, kinds ...int) (*thing, bool) {
	x, found := m.things[v.Ref]
	return x, found && x.value.Kind == v.Kind && slices.Contains(kinds, v.Kind)
}

// node returns an object of the graph.
func (m *model) node(id, weak int) api.Object {
	x := m.things[id]
	g := api.Object{ID: id, Size: map[int]int{api.Table: 8 + x.fields.Size(), api.Function: 8 + len(x.refs), api.Thread: 16 + len(x.refs), api.Data: 12}[x.value.Kind]}
	if x.value.Kind == api.Table && weak > 0 && weak < 4 {
		g.Weak = weak
	}
	list := []api.Value{x.meta}
	for i := 1; i <= 16; i++ {
		list = append(list, x.slots[i])
	}
	for _, v := range append(list, x.refs...) {
		if v.Ref > 0 && v.Kind != api.Bool {
			g.Refs = append(g.Refs, v.Ref)
		}
	}
	k, v, found, _ := x.fields.Next(none)
	for ; found; k, v, found, _ = x.fields.Next(k) {
		entry := api.Entry{Key: k.Ref, Val: v.Ref}
		if k.Kind == api.Bool {
			entry.Key = 0
		}
		if v.Kind == api.Bool {
			entry.Val = 0
		}
		if entry.Key > 0 || entry.Val > 0 {
			g.Entries = append(g.Entries, entry)
		}
	}
	return g
}

// errorOf returns the error of an element.
func errorOf(v api.Value) api.Errno {
	if e, bad := badElements()[v]; bad {
		return e
	}
	return api.OK
}

// chance returns numbers that look like those of chance.
type chance struct{ state uint64 }

// below returns a number from 0 to n - 1.
func (c *chance) below(n int) int {
	c.state = c.state*6364136223846793005 + 1442695040888963407
	return int(c.state >> 33 % uint64(n))
}

// any returns a value, which denotes an object more often than not.
func (c *chance) any(m *model) api.Value {
	switch c.below(12) {
	case 0:
		return none
	case 1:
		return num(1 + c.below(4))
	case 2:
		return elements()[c.below(len(elements()))]
	case 3:
		return str(string(rune('a' + c.below(3))))
	case 4:
		return object([]int{api.Bool, api.Table, api.Function, api.Thread, api.Data}[c.below(5)], 1)
	case 5:
		if c.below(4) == 0 {
			return []api.Value{{Ref: 1}, {Kind: 99, Ref: 1}, {Kind: api.Number}, str(long(api.MaxString + 1))}[c.below(4)]
		}
	}
	return object([]int{api.Table, api.Table, api.Function, api.Thread, api.Data}[c.below(5)], max(1, m.last-c.below(20)))
}

// pair is a heap with its model, to which calls by chance are applied.
type pair struct {
	t *testing.T
	c *chance
	h *heap.Heap
	m *model
}

// settle checks the error of a call that changes an object, and touches it if there is none.
func (p pair) settle(call string, v api.Value, got, wanted api.Errno) bool {
	p.t.Helper()
	want(p.t, call, got, wanted)
	if wanted == api.OK {
		p.m.touched[v.Ref] = true
	}
	return wanted == api.OK
}

// create creates an object.
func (p pair) create() {
	n := p.c.below(9)
	var v api.Value
	var e api.Errno
	kind := []int{api.Table, api.Function, api.Thread, api.Data}[p.c.below(4)]
	switch kind {
	case api.Table:
		v, e = p.h.NewTable()
	case api.Function:
		v, e = p.h.NewFunc(n)
	case api.Thread:
		v, e = p.h.NewThread(n)
	case api.Data:
		v, e = p.h.NewData(long(n))
	}
	if made := p.m.create(kind, n); v != made || e != api.OK {
		p.t.Errorf("a new object: %v, error %d; want %v", v, int(e), made)
	}
}

// setField applies Set, and checks Get.
func (p pair) setField() {
	v, k, x := p.c.any(p.m), p.c.any(p.m), p.c.any(p.m)
	wanted := errorOf(x)
	if k == none || errorOf(k) != api.OK {
		wanted = api.ErrKey
	}
	d, found := p.m.denoted(v, api.Table)
	if !found {
		wanted = api.ErrType
	}
	if p.settle("Set", v, p.h.Set(v, k, x), wanted) {
		d.fields.Set(k, x)
		wantGet(p.t, p.h, v, k, x)
	}
}

// insert applies Insert.
func (p pair) insert() {
	v, x := p.c.any(p.m), p.c.any(p.m)
	wanted, at := api.ErrType, 0
	if d, found := p.m.denoted(v, api.Table); found {
		at, wanted = 1+p.c.below(d.fields.Len()+2)-p.c.below(2), errorOf(x)
		if wanted == api.OK {
			wanted = d.fields.Insert(at, x)
		}
	}
	p.settle("Insert", v, p.h.Insert(v, at, x), wanted)
}

// remove applies Remove.
func (p pair) remove() {
	v := p.c.any(p.m)
	wanted, at, x := api.ErrType, 0, none
	if d, found := p.m.denoted(v, api.Table); found {
		at = 1 + p.c.below(d.fields.Len()+1) - p.c.below(2)
		x, wanted = d.fields.Remove(at)
	}
	got, e := p.h.Remove(v, at)
	p.settle("Remove", v, e, wanted)
	if got != x {
		p.t.Errorf("Remove(%v, %d): %v; want %v", v, at, got, x)
	}
}

// setMeta applies SetMeta.
func (p pair) setMeta() {
	v, meta := p.c.any(p.m), p.c.any(p.m)
	wanted := api.OK
	d, found := p.m.denoted(v, api.Table, api.Data)
	if _, is := p.m.denoted(meta, api.Table); !found || meta != none && !is {
		wanted = api.ErrType
	}
	if p.settle("SetMeta", v, p.h.SetMeta(v, meta), wanted) {
		d.meta = meta
	}
}

// setSlot applies SetSlot.
func (p pair) setSlot() {
	v, x, i := p.c.any(p.m), p.c.any(p.m), p.c.below(18)
	wanted := errorOf(x)
	if i < 1 || i > 16 {
		wanted = api.ErrRange
	}
	d, found := p.m.denoted(v, api.Data)
	if !found {
		wanted = api.ErrType
	}
	if p.settle("SetSlot", v, p.h.SetSlot(v, i, x), wanted) {
		d.slots[i] = x
	}
}

// setRefs applies SetRefs.
func (p pair) setRefs() {
	v := p.c.any(p.m)
	var refs []api.Value
	wanted := api.OK
	for range p.c.below(5) {
		refs = append(refs, p.c.any(p.m))
		if wanted == api.OK {
			wanted = errorOf(refs[len(refs)-1])
		}
	}
	d, found := p.m.denoted(v, api.Function, api.Thread)
	if !found {
		wanted = api.ErrType
	}
	if p.settle("SetRefs", v, p.h.SetRefs(v, refs), wanted) {
		d.refs = refs
	}
}

// drop applies Drop.
func (p pair) drop() {
	id, wanted := p.m.last-p.c.below(20), api.ErrDead
	if _, found := p.m.things[id]; found {
		wanted = api.OK
	}
	want(p.t, "Drop", p.h.Drop(id), wanted)
	delete(p.m.things, id)
	delete(p.m.touched, id)
}

// touched applies Touched.
func (p pair) touched() {
	wantIDs(p.t, "Touched", p.h.Touched(), slices.Sorted(maps.Keys(p.m.touched))...)
	p.m.touched = map[int]bool{}
}

// agree checks that the heap and its model are alike.
func (p pair) agree() {
	ids, size, h := slices.Sorted(maps.Keys(p.m.things)), 0, p.h
	wantIDs(p.t, "IDs", h.IDs(), ids...)
	for id := 0; id <= p.m.last+1; id++ {
		x, found := p.m.things[id]
		if h.Alive(id) != found {
			p.t.Errorf("Alive(%d): %v", id, !found)
		}
		if !found {
			continue
		}
		weak := id % 6
		g := p.m.node(id, weak)
		wantObject(p.t, h, weak, g)
		size += g.Size
		p.agreeOn(x)
	}
	if h.Count() != len(ids) || h.Size() != size {
		p.t.Errorf("Count %d, Size %d; want %d, %d", h.Count(), h.Size(), len(ids), size)
	}
}

// agreeOn checks that an object of the heap and its model are alike.
func (p pair) agreeOn(x *thing) {
	p.t.Helper()
	if meta := p.h.Meta(x.value); meta != x.meta {
		p.t.Errorf("Meta(%v): %v; want %v", x.value, meta, x.meta)
	}
	name, is := p.h.Name(x.value)
	tag, other := p.h.Tag(x.value)
	if is != (x.value.Kind == api.Data) || other != (x.value.Kind == api.Function || x.value.Kind == api.Thread) || len(name)+tag != x.number && x.value.Kind != api.Table {
		p.t.Errorf("%v: name %q, %v, tag %d, %v; want %d", x.value, name, is, tag, other, x.number)
	}
	for i := 1; i <= 16 && x.value.Kind == api.Data; i++ {
		wantSlot(p.t, p.h, x.value, i, x.slots[i])
	}
	if x.value.Kind != api.Table {
		return
	}
	wantLen(p.t, p.h, x.value, x.fields.Len())
	k, v, found, _ := x.fields.Next(none)
	last := none
	for ; found; k, v, found, _ = x.fields.Next(k) {
		wantNext(p.t, p.h, x.value, last, k, v)
		wantGet(p.t, p.h, x.value, k, v)
		last = k
	}
	wantNoNext(p.t, p.h, x.value, last, api.OK)
}

// TestByChance covers P14.1 to P14.12 for long lists of calls.
func TestByChance(t *testing.T) {
	for run := range 250 {
		p := pair{t, &chance{uint64(run)}, heap.New(), newModel()}
		calls := []func(pair){pair.create, pair.create, pair.setField, pair.setField, pair.setField, pair.setField, pair.insert, pair.insert, pair.remove, pair.setMeta, pair.setSlot, pair.setSlot, pair.setRefs, pair.drop, pair.touched, pair.agree}
		for range 250 {
			calls[p.c.below(len(calls))](p)
			if t.Failed() {
				t.Fatalf("in run %d", run)
			}
		}
		p.agree()
	}
}

// TestManyChanges covers P14.8 and P14.12 for a large heap in use: this would take very long if Size or Touched
// looked at all objects.
func TestManyChanges(t *testing.T) {
	h := heap.New()
	for range api.MaxObjects {
		newTable(t, h)
	}
	size := 12 * api.MaxObjects
	if l := h.Touched(); len(l) != api.MaxObjects || h.Size() != size {
		t.Errorf("Touched: %d identities, Size %d", len(l), h.Size())
	}
	for i := range 300000 {
		id := 1 + i*7919%api.MaxObjects
		want(t, "Set", h.Set(object(api.Table, id), str("k"), num(i)), api.OK)
		if i < api.MaxObjects {
			size += 4
		}
		wantIDs(t, "Touched", h.Touched(), id)
		if h.Size() != size {
			t.Fatalf("Size %d; want %d", h.Size(), size)
		}
	}
}
