package heap

import (
	"scripting/api"
	"scripting/value"
)

// element returns the error of a value that is to be stored.
func element(v api.Value) api.Errno {
	switch {
	case v.Kind == api.String && len(v.Str) > api.MaxString:
		return api.ErrLong
	case !value.Valid(v):
		return api.ErrArg
	}
	return api.OK
}

// Get returns the value of a key without metamethods.
func (o *Heap) Get(t, k api.Value) (api.Value, api.Errno) {
	x, e := o.find(t, api.Table)
	if e != api.OK {
		return api.Value{}, e
	}
	return x.table.Get(k), api.OK
}

// Set sets a key without metamethods.
func (o *Heap) Set(t, k, v api.Value) api.Errno {
	x, e := o.find(t, api.Table)
	if e != api.OK {
		return e
	}
	before := x.size()
	e = x.table.Set(k, v)
	if e == api.ErrArg {
		e = element(v) // a table does not tell a string that is too long from other values
	}
	return o.changed(x, before, e)
}

// Len returns the border of a table.
func (o *Heap) Len(t api.Value) (int, api.Errno) {
	x, e := o.find(t, api.Table)
	if e != api.OK {
		return 0, e
	}
	return x.table.Len(), api.OK
}

// Next returns the entry after a key.
func (o *Heap) Next(t, k api.Value) (api.Value, api.Value, bool, api.Errno) {
	x, e := o.find(t, api.Table)
	if e != api.OK {
		return api.Value{}, api.Value{}, false, e
	}
	return x.table.Next(k)
}

// Insert inserts a value into a sequence.
func (o *Heap) Insert(t api.Value, at int, v api.Value) api.Errno {
	x, e := o.find(t, api.Table)
	if e != api.OK {
		return e
	}
	if e := element(v); e != api.OK {
		return e
	}
	before := x.size()
	e = x.table.Insert(at, v)
	return o.changed(x, before, e)
}

// Remove removes a value from a sequence.
func (o *Heap) Remove(t api.Value, at int) (api.Value, api.Errno) {
	x, e := o.find(t, api.Table)
	if e != api.OK {
		return api.Value{}, e
	}
	before := x.size()
	v, e := x.table.Remove(at)
	return v, o.changed(x, before, e)
}

// Meta returns the metatable of a value, nil if it has none.
func (o *Heap) Meta(v api.Value) api.Value {
	x, e := o.find(v, api.Table, api.Data)
	if e != api.OK {
		return api.Value{}
	}
	return x.meta
}

// SetMeta sets the metatable of a table or an object of the host.
func (o *Heap) SetMeta(v, meta api.Value) api.Errno {
	x, e := o.find(v, api.Table, api.Data)
	if e == api.OK && meta != (api.Value{}) {
		_, e = o.find(meta, api.Table)
	}
	if e != api.OK {
		return e
	}
	x.meta = meta
	o.touch(x)
	return api.OK
}

// Slot returns a user value of an object of the host.
func (o *Heap) Slot(v api.Value, i int) (api.Value, api.Errno) {
	x, e := o.find(v, api.Data)
	switch {
	case e != api.OK:
		return api.Value{}, e
	case i < 1 || i > len(x.slots):
		return api.Value{}, api.ErrRange
	}
	return x.slots[i-1], api.OK
}

// SetSlot sets a user value of an object of the host.
func (o *Heap) SetSlot(v api.Value, i int, x api.Value) api.Errno {
	d, e := o.find(v, api.Data)
	switch {
	case e != api.OK:
		return e
	case i < 1 || i > len(d.slots):
		return api.ErrRange
	}
	if e := element(x); e != api.OK {
		return e
	}
	d.slots[i-1] = x
	o.touch(d)
	return api.OK
}

// SetRefs sets what a function or coroutine refers to.
func (o *Heap) SetRefs(v api.Value, refs []api.Value) api.Errno {
	x, e := o.find(v, api.Function, api.Thread)
	if e != api.OK {
		return e
	}
	for _, r := range refs {
		if e := element(r); e != api.OK {
			return e
		}
	}
	before := x.size()
	x.refs = make([]api.Value, len(refs))
	copy(x.refs, refs)
	return o.changed(x, before, api.OK)
}
