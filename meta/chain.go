package meta

import (
	"scripting/api"
	"scripting/heap"
	"scripting/value"
)

// Index returns what v[k] needs.
func Index(h *heap.Heap, v, k api.Value) api.Need {
	return follow(h, chain{event: "__index", after: api.AfterOne, field: h.Get, end: func(at, field api.Value) api.Need {
		switch at.Kind {
		case api.Table:
			return result(field)
		case api.String:
			return result(stringFunction(k))
		}
		return notIndexed(at)
	}}, v, k)
}

// Assign returns what v[k] = x needs.
func Assign(h *heap.Heap, v, k, x api.Value) api.Need {
	return follow(h, chain{event: "__newindex", after: api.AfterNone, field: h.Get, end: func(at, _ api.Value) api.Need {
		switch h.Set(at, k, x) {
		case api.OK:
			return result(api.Value{})
		case api.ErrKey:
			return failure("index is nil")
		case api.ErrLong:
			return failure("string too long")
		}
		return notIndexed(at)
	}}, v, k, x)
}

// chain is a way from one value to the next, on which each one's metamethod for an event takes its place.
type chain struct {
	event string
	after int // what becomes of the results of a metamethod that is a function
	field func(t, k api.Value) (api.Value, api.Errno)
	// end settles what is needed at a value that has the field, or no metamethod that could take its place.
	end func(at, field api.Value) api.Need
}

// follow goes along a chain that begins with the value at. The rest are the operands that a metamethod gets after the
// value at hand and the key.
func follow(h *heap.Heap, c chain, at, k api.Value, rest ...api.Value) api.Need {
	for range api.MaxChain {
		field, _ := c.field(at, k)
		if field.Kind != api.Nil {
			return c.end(at, field)
		}
		handler := Handler(h, at, c.event)
		if handler.Kind == api.Nil {
			return c.end(at, field)
		}
		if isFunction(handler) {
			return call(handler, c.after, append([]api.Value{at, k}, rest...)...)
		}
		at = handler
	}
	return failure("chain of metatables too long")
}

// notIndexed returns the failure of an access to a value that has no fields.
func notIndexed(v api.Value) api.Need {
	return failure("attempt to index a " + value.Type(v) + " value")
}

// stringFunction returns the function of strings that a key names, nil if it names none.
func stringFunction(k api.Value) api.Value {
	if k.Kind != api.String {
		return api.Value{}
	}
	switch k.Str {
	case "byte", "char", "find", "format", "gmatch", "gsub", "len", "lower", "match", "rep", "reverse", "sub", "upper":
		return api.Value{Kind: api.Builtin, Str: "string." + k.Str}
	}
	return api.Value{}
}
