package meta_test

import (
	"testing"

	"scripting/api"
	"scripting/heap"
	"scripting/meta"
)

// oddKeys returns values that no table has as keys.
func oddKeys() []api.Value {
	return []api.Value{none, {Ref: 1}, {Kind: api.Number}, {Kind: api.Number, Num: api.Num{P: 2, Q: 2}}, truth(2), object(api.Table, 0), {Kind: api.String, Str: "upper", Ref: 1}, host(""), {Kind: 99}, str(long(api.MaxString + 1))}
}

// TestIndexOfTable covers P15.2 and P15.9 for a table without a metatable.
func TestIndexOfTable(t *testing.T) {
	h := heap.New()
	v := newTable(t, h)
	values := []api.Value{num(3), str("x"), truth(0), truth(1), v, host("f"), newFunc(t, h)}
	for i, k := range []api.Value{num(1), num(2), str("upper"), str(""), truth(0), truth(1), v, host("f"), object(api.Data, 99), {Kind: api.Number, Num: api.Num{P: 1, Q: 2}}} {
		wantNeed(t, "Index before", meta.Index(h, v, k), done(none))
		must(t, h.Set(v, k, values[i%len(values)]))
		h.Touched()
		wantNeed(t, "Index", meta.Index(h, v, k), done(values[i%len(values)]))
		wantSame(t, h)
		wantNeed(t, "Index of a table that does not exist", meta.Index(h, object(api.Table, 99), k), done(none))
	}
	for _, k := range oddKeys() {
		wantNeed(t, "Index of an odd key", meta.Index(h, v, k), done(none))
	}
}

// TestIndexOfString covers P15.2 for strings.
func TestIndexOfString(t *testing.T) {
	h, _ := rich(t)
	for _, s := range []api.Value{str(""), str("abc"), str(long(api.MaxString)), str(long(api.MaxString + 1)), {Kind: api.String, Ref: 1}} {
		for _, name := range []string{"byte", "char", "find", "format", "gmatch", "gsub", "len", "lower", "match", "rep", "reverse", "sub", "upper"} {
			wantNeed(t, "Index of a string", meta.Index(h, s, str(name)), done(host("string."+name)))
			wantNeed(t, "Index of a string", meta.Index(h, s, host(name)), done(none))
		}
		for _, k := range []api.Value{none, str(""), str("Len"), str("len "), str("lengths"), str("string.len"), str("pack"), str("concat"), num(1), truth(1), object(api.Table, 1), {Kind: 99, Str: "len"}, {Str: "len"}} {
			wantNeed(t, "Index of a string", meta.Index(h, s, k), done(none))
		}
	}
	wantSame(t, h)
}

// TestIndexOfOthers covers P15.2 for values that have no fields.
func TestIndexOfOthers(t *testing.T) {
	h, _ := rich(t)
	for _, x := range odds() {
		for _, k := range append(oddKeys(), num(1), str("len")) {
			wantNeed(t, "Index", meta.Index(h, x.v, k), failing("attempt to index a "+x.typeName+" value"))
		}
	}
	d := newData(t, h, "file")
	wantNeed(t, "Index of a host object", meta.Index(h, d, str("x")), failing("attempt to index a userdata value"))
	with(t, h, d, "__newindex", host("f"))
	wantNeed(t, "Index of a host object", meta.Index(h, d, str("x")), failing("attempt to index a userdata value"))
}

// TestIndexByMetamethod covers P15.2: what the metamethod gets, and what takes its place if it is no function.
func TestIndexByMetamethod(t *testing.T) {
	h := heap.New()
	v, d, base := newTable(t, h), newData(t, h, "d"), newTable(t, h)
	k := str("upper")
	for _, x := range []api.Value{v, d} {
		for _, f := range []api.Value{host("f"), newFunc(t, h), object(api.Function, 99)} {
			with(t, h, x, "__index", f)
			h.Touched()
			for _, key := range append(oddKeys(), k) {
				wantNeed(t, "Index by a function", meta.Index(h, x, key), calling(f, api.AfterOne, x, key))
			}
			wantSame(t, h)
		}
		with(t, h, x, "__index", str("any"))
		wantNeed(t, "Index by a string", meta.Index(h, x, k), done(host("string.upper")))
		wantNeed(t, "Index by a string", meta.Index(h, x, num(1)), done(none))
		for _, y := range []odd{{num(1), "number"}, {truth(0), "boolean"}, {newThread(t, h), "thread"}, {newData(t, h, "e"), "userdata"}} {
			with(t, h, x, "__index", y.v)
			wantNeed(t, "Index by another value", meta.Index(h, x, k), failing("attempt to index a "+y.typeName+" value"))
		}
		with(t, h, x, "__index", base)
		wantNeed(t, "Index by a table", meta.Index(h, x, k), done(none))
	}
	must(t, h.Set(base, k, truth(0)))
	wantNeed(t, "Index by a table", meta.Index(h, d, k), done(truth(0)))
	with(t, h, base, "__index", host("f"))
	wantNeed(t, "Index by a table", meta.Index(h, v, k), done(truth(0)))
	wantNeed(t, "Index by the function of a table", meta.Index(h, v, num(5)), calling(host("f"), api.AfterOne, base, num(5)))
	must(t, h.Set(v, k, num(7)))
	wantNeed(t, "Index of a table with the field", meta.Index(h, v, k), done(num(7)))
	with(t, h, v, "__index", host("f"))
	wantNeed(t, "Index of a table with the field", meta.Index(h, v, k), done(num(7)))
}

// TestAssignToTable covers P15.3 and P15.9 for a table without a metamethod.
func TestAssignToTable(t *testing.T) {
	h := heap.New()
	v := newTable(t, h)
	with(t, h, v, "__index", newTable(t, h)) // it does not matter
	for _, k := range []api.Value{num(1), num(2), str(""), truth(0), v, host("f"), object(api.Data, 99)} {
		for _, x := range []api.Value{none, num(1), str(long(api.MaxString)), truth(0), none, v, object(api.Thread, 99), none} {
			h.Touched()
			wantNeed(t, "Assign", meta.Assign(h, v, k, x), done(none))
			if l := h.Touched(); len(l) != 1 || l[0] != v.Ref {
				t.Errorf("Assign has changed the objects %v", l)
			}
			if got, e := h.Get(v, k); got != x || e != api.OK {
				t.Errorf("Assign of %.99v: %.99v, error %d", x, got, int(e))
			}
			wantNeed(t, "Index", meta.Index(h, v, k), done(x))
		}
	}
}

// TestAssignErrors covers the errors of heap.Set of P15.3.
func TestAssignErrors(t *testing.T) {
	h := heap.New()
	v := newTable(t, h)
	must(t, h.Set(v, str("k"), num(1)))
	h.Touched()
	tooBig, wrong := str(long(api.MaxString+1)), []api.Value{{Ref: 1}, {Kind: api.Number}, truth(2), object(api.Table, 0), {Kind: 99}, host("")}
	for _, k := range oddKeys() {
		wantNeed(t, "Assign with an odd key", meta.Assign(h, v, k, num(1)), failing("index is nil"))
		wantNeed(t, "Assign with an odd key", meta.Assign(h, v, k, none), failing("index is nil"))
		wantNeed(t, "Assign with an odd key", meta.Assign(h, v, k, tooBig), failing("index is nil"))
	}
	for _, k := range []api.Value{str("k"), str("other"), num(1)} {
		wantNeed(t, "Assign of a long string", meta.Assign(h, v, k, tooBig), failing("string too long"))
		for _, x := range wrong {
			wantNeed(t, "Assign of a value that is none", meta.Assign(h, v, k, x), failing("attempt to index a table value"))
		}
		wantNeed(t, "Assign to a table that does not exist", meta.Assign(h, object(api.Table, 99), k, num(1)), failing("attempt to index a table value"))
		wantNeed(t, "Assign to a table that does not exist", meta.Assign(h, object(api.Table, 99), none, tooBig), failing("attempt to index a table value"))
	}
	wantSame(t, h)
	if x, e := h.Get(v, str("k")); x != num(1) || e != api.OK {
		t.Errorf("Get: %v, error %d", x, int(e))
	}
}

// TestAssignToOthers covers P15.3 for values that have no fields.
func TestAssignToOthers(t *testing.T) {
	h, _ := rich(t)
	d := newData(t, h, "file")
	with(t, h, d, "__index", host("f"))
	h.Touched()
	for _, x := range append(odds(), odd{str(""), "string"}, odd{str("abc"), "string"}, odd{d, "userdata"}) {
		for _, k := range append(oddKeys(), num(1), str("len")) {
			wantNeed(t, "Assign", meta.Assign(h, x.v, k, num(1)), failing("attempt to index a "+x.typeName+" value"))
			wantNeed(t, "Assign", meta.Assign(h, x.v, k, str(long(api.MaxString+1))), failing("attempt to index a "+x.typeName+" value"))
		}
	}
	wantSame(t, h)
}

// TestAssignByMetamethod covers P15.3: what the metamethod gets, and what takes its place if it is no function.
func TestAssignByMetamethod(t *testing.T) {
	h := heap.New()
	v, d, base := newTable(t, h), newData(t, h, "d"), newTable(t, h)
	k := str("upper")
	for _, x := range []api.Value{v, d} {
		for _, f := range []api.Value{host("f"), newFunc(t, h), object(api.Function, 99)} {
			with(t, h, x, "__newindex", f)
			h.Touched()
			for _, key := range append(oddKeys(), k) {
				for _, y := range []api.Value{num(1), none, str(long(api.MaxString + 1)), {Kind: 99}} { // which nothing is done with
					wantNeed(t, "Assign by a function", meta.Assign(h, x, key, y), calling(f, api.AfterNone, x, key, y))
				}
			}
			wantSame(t, h)
		}
		for _, y := range []odd{{num(1), "number"}, {str("s"), "string"}, {truth(0), "boolean"}, {newThread(t, h), "thread"}, {newData(t, h, "e"), "userdata"}} {
			with(t, h, x, "__newindex", y.v)
			h.Touched()
			wantNeed(t, "Assign by another value", meta.Assign(h, x, k, num(1)), failing("attempt to index a "+y.typeName+" value"))
			wantSame(t, h)
		}
		with(t, h, x, "__newindex", base)
		wantNeed(t, "Assign by a table", meta.Assign(h, x, num(x.Ref), x), done(none))
		if y, _ := h.Get(base, num(x.Ref)); y != x {
			t.Errorf("Assign by a table: %v", y)
		}
		wantNeed(t, "Assign of a long string by a table", meta.Assign(h, x, k, str(long(api.MaxString+1))), failing("string too long"))
		wantNeed(t, "Assign of nil by a table", meta.Assign(h, x, none, x), failing("index is nil"))
	}
	with(t, h, base, "__newindex", host("f"))
	wantNeed(t, "Assign by the function of a table", meta.Assign(h, v, k, num(2)), calling(host("f"), api.AfterNone, base, k, num(2)))
	must(t, h.Set(base, k, truth(0))) // also a field that is false exists
	wantNeed(t, "Assign by a table with the field", meta.Assign(h, v, k, num(3)), done(none))
	if x, _ := h.Get(v, k); x != none {
		t.Errorf("the first table of the chain got %v", x)
	}
	must(t, h.Set(v, k, num(4)))
	wantNeed(t, "Assign to a table with the field", meta.Assign(h, v, k, none), done(none))
	wantNeed(t, "Assign to a table without the field", meta.Assign(h, v, k, num(5)), done(none))
	for x, want := range map[api.Value]api.Value{v: none, base: num(5)} {
		if got, _ := h.Get(x, k); got != want {
			t.Errorf("the field of %v: %v; want %v", x, got, want)
		}
	}
}

// TestChain covers P15.10 for Index and Assign: chains of tables that end with a field, a function, another value or
// nothing.
func TestChain(t *testing.T) {
	k := str("upper")
	for n := 1; n <= api.MaxChain+3; n++ {
		h := heap.New()
		upTo := func(most int, need api.Need) api.Need {
			if n > most {
				return tooLong()
			}
			return need
		}
		get, put := linked(t, h, "__index", n), linked(t, h, "__newindex", n)
		wantNeed(t, "Index", meta.Index(h, get[0], k), upTo(api.MaxChain, done(none)))
		wantNeed(t, "Assign", meta.Assign(h, put[0], k, num(1)), upTo(api.MaxChain, done(none)))
		wantNeed(t, "Assign to a field", meta.Assign(h, put[0], k, none), upTo(api.MaxChain, done(none)))
		must(t, h.Set(get[n-1], k, num(n)))
		wantNeed(t, "Index with a field", meta.Index(h, get[0], k), upTo(api.MaxChain, done(num(n))))
		must(t, h.Set(get[n-1], k, none))
		with(t, h, get[n-1], "__index", host("f"))
		with(t, h, put[n-1], "__newindex", host("f"))
		wantNeed(t, "Index with a function", meta.Index(h, get[0], k), upTo(api.MaxChain, calling(host("f"), api.AfterOne, get[n-1], k)))
		wantNeed(t, "Assign with a function", meta.Assign(h, put[0], k, num(1)), upTo(api.MaxChain, calling(host("f"), api.AfterNone, put[n-1], k, num(1))))
		with(t, h, get[n-1], "__index", str("s"))
		wantNeed(t, "Index with a string", meta.Index(h, get[0], k), upTo(api.MaxChain-1, done(host("string.upper"))))
		with(t, h, get[n-1], "__index", num(1))
		with(t, h, put[n-1], "__newindex", str("s"))
		wantNeed(t, "Index with a number", meta.Index(h, get[0], k), upTo(api.MaxChain-1, failing("attempt to index a number value")))
		h.Touched()
		wantNeed(t, "Assign with a string", meta.Assign(h, put[0], k, num(1)), upTo(api.MaxChain-1, failing("attempt to index a string value")))
		with(t, h, get[n-1], "__index", get[0])
		with(t, h, put[n-1], "__newindex", put[0])
		h.Touched()
		wantNeed(t, "Index in a circle", meta.Index(h, get[n/2], k), tooLong())
		wantNeed(t, "Assign in a circle", meta.Assign(h, put[n/2], k, num(1)), tooLong())
		wantSame(t, h)
	}
}

// TestNilHeap covers P15.11.
func TestNilHeap(t *testing.T) {
	for _, id := range []int{-1, 0, 1} {
		v := object(api.Table, id)
		wantNeed(t, "Index", meta.Index(nil, v, num(1)), done(none))
		wantNeed(t, "Assign", meta.Assign(nil, v, num(1), num(2)), failing("attempt to index a table value"))
		wantNeed(t, "Assign", meta.Assign(nil, v, none, str(long(api.MaxString+1))), failing("attempt to index a table value"))
		wantNeed(t, "Length", meta.Length(nil, v), done(num(0)))
		wantNoCallee(t, nil, v, nil, api.ErrType)
	}
	wantNeed(t, "Text", meta.Text(nil, object(api.Table, 1)), done(str("table: 1")))
	wantNeed(t, "Text", meta.Text(nil, object(api.Data, 1)), done(str("userdata: 1")))
	wantNeed(t, "Length", meta.Length(nil, str("abc")), done(num(3)))
	wantNeed(t, "Index", meta.Index(nil, str("abc"), str("len")), done(host("string.len")))
	if f, l, e := meta.Callee(nil, host("f"), []api.Value{num(1)}); f != host("f") || len(l) != 1 || l[0] != num(1) || e != api.OK {
		t.Errorf("Callee: %v, %v, error %d", f, l, int(e))
	}
	for _, x := range append(odds(), odd{v: object(api.Table, 1)}, odd{v: str("x")}) {
		for _, event := range events() {
			if m := meta.Handler(nil, x.v, event); m != none {
				t.Errorf("Handler: %v", m)
			}
		}
		if w := meta.Weakness(nil, x.v); w != api.Strong {
			t.Errorf("Weakness: %d", w)
		}
		if x.typeName != "" {
			wantNeed(t, "Index", meta.Index(nil, x.v, num(1)), failing("attempt to index a "+x.typeName+" value"))
			wantNeed(t, "Assign", meta.Assign(nil, x.v, num(1), none), failing("attempt to index a "+x.typeName+" value"))
			wantNeed(t, "Length", meta.Length(nil, x.v), failing("attempt to get length of a "+x.typeName+" value"))
		}
	}
}
