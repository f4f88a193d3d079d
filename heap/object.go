package heap

import (
	"scripting/api"
	"scripting/table"
)

// userValues is how many user values an object of the host has.
const userValues = 16

// What objects add to the accounted size, beside what they contain.
const (
	sizeOfTable  = 8
	sizeOfFunc   = 8
	sizeOfThread = 16
	sizeOfData   = 12
)

// object is an object; the fields that its kind does not have are zero.
type object struct {
	id    int
	kind  int
	tag   int          // of a function or coroutine
	name  string       // of an object of the host
	table *table.Table // the fields of a table
	meta  api.Value
	slots []api.Value // the user values of an object of the host
	refs  []api.Value // what a function or coroutine refers to
}

// size returns the accounted size.
func (x *object) size() int {
	switch x.kind {
	case api.Table:
		return sizeOfTable + x.table.Size()
	case api.Function:
		return sizeOfFunc + len(x.refs)
	case api.Thread:
		return sizeOfThread + len(x.refs)
	}
	return sizeOfData
}

// node returns the object as one of a graph.
func (x *object) node(weak int) api.Object {
	g := api.Object{ID: x.id, Size: x.size(), Weak: api.Strong, Refs: x.refIDs()}
	if x.kind != api.Table {
		return g
	}
	if weak >= api.Strong && weak <= api.WeakBoth {
		g.Weak = weak
	}
	g.Entries = x.entries()
	return g
}

// refIDs returns the identities of what the object refers to, apart from its entries.
func (x *object) refIDs() []int {
	var list []int
	for _, part := range [][]api.Value{{x.meta}, x.slots, x.refs} {
		for _, v := range part {
			if id := identity(v); id > 0 {
				list = append(list, id)
			}
		}
	}
	return list[:len(list):len(list)]
}

// entries returns the entries of a table whose keys or values are objects.
func (x *object) entries() []api.Entry {
	var list []api.Entry
	k, v, found, _ := x.table.Next(api.Value{})
	for found {
		if entry := (api.Entry{Key: identity(k), Val: identity(v)}); entry != (api.Entry{}) {
			list = append(list, entry)
		}
		k, v, found, _ = x.table.Next(k)
	}
	return list[:len(list):len(list)]
}

// identity returns the identity of an object, and 0 for other values.
func identity(v api.Value) int {
	switch v.Kind {
	case api.Table, api.Function, api.Thread, api.Data:
		return v.Ref
	}
	return 0
}
