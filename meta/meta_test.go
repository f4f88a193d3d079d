package meta_test

import (
	"math"
	"slices"
	"strconv"
	"strings"
	"testing"

	"scripting/api"
	"scripting/heap"
	"scripting/meta"
)

// none is the value nil.
var none = api.Value{}

// num returns an integer as a value.
func num(n int) api.Value { return api.Value{Kind: api.Number, Num: api.Num{P: n, Q: 1}} }

// str returns a string as a value.
func str(s string) api.Value { return api.Value{Kind: api.String, Str: s} }

// truth returns a truth value.
func truth(ref int) api.Value { return api.Value{Kind: api.Bool, Ref: ref} }

// object returns a value with an identity.
func object(kind, ref int) api.Value { return api.Value{Kind: kind, Ref: ref} }

// host returns a function of the host as a value.
func host(name string) api.Value { return api.Value{Kind: api.Builtin, Str: name} }

// long returns a string of so many bytes.
func long(n int) string { return strings.Repeat("x", n) }

// events returns the events of the document.
func events() []string {
	return []string{"__index", "__newindex", "__call", "__tostring", "__name", "__len", "__eq", "__lt", "__le", "__concat", "__add", "__sub", "__mul", "__div", "__idiv", "__mod", "__pow", "__unm",
		"__band", "__bor", "__bxor", "__shl", "__shr", "__bnot", "__close", "__gc", "__mode", "__pairs", "__metatable"}
}

// must checks that there was no error.
func must(t *testing.T, e api.Errno) {
	t.Helper()
	if e != api.OK {
		t.Fatalf("error %d", int(e))
	}
}

// newTable returns a new table.
func newTable(t *testing.T, h *heap.Heap) api.Value {
	t.Helper()
	v, e := h.NewTable()
	must(t, e)
	return v
}

// newData returns a new host object.
func newData(t *testing.T, h *heap.Heap, name string) api.Value {
	t.Helper()
	v, e := h.NewData(name)
	must(t, e)
	return v
}

// newFunc returns a new function of the script.
func newFunc(t *testing.T, h *heap.Heap) api.Value {
	t.Helper()
	v, e := h.NewFunc(0)
	must(t, e)
	return v
}

// newThread returns a new coroutine.
func newThread(t *testing.T, h *heap.Heap) api.Value {
	t.Helper()
	v, e := h.NewThread(0)
	must(t, e)
	return v
}

// with gives a value the metamethod of an event, and returns the value.
func with(t *testing.T, h *heap.Heap, v api.Value, event string, handler api.Value) api.Value {
	t.Helper()
	m := h.Meta(v)
	if m == none {
		m = newTable(t, h)
		must(t, h.SetMeta(v, m))
	}
	must(t, h.Set(m, str(event), handler))
	return v
}

// linked returns so many tables, each of which is the metamethod of the one before it for an event. The last one has
// none.
func linked(t *testing.T, h *heap.Heap, event string, n int) []api.Value {
	t.Helper()
	var list []api.Value
	for i := range n {
		list = append(list, newTable(t, h))
		if i > 0 {
			with(t, h, list[i-1], event, list[i])
		}
	}
	return list
}

// wantNeed checks what an operation needs.
func wantNeed(t *testing.T, what string, got, want api.Need) {
	t.Helper()
	if got.Kind != want.Kind || got.Value != want.Value || got.Func != want.Func || got.After != want.After || got.Str != want.Str || !slices.Equal(got.Args, want.Args) {
		t.Errorf("%s: %.299v; want %.299v", what, got, want)
	}
}

// done returns the need of an operation whose result is known.
func done(v api.Value) api.Need { return api.Need{Kind: api.NeedValue, Value: v} }

// calling returns the need of a call.
func calling(f api.Value, after int, args ...api.Value) api.Need {
	return api.Need{Kind: api.NeedCall, Func: f, Args: args, After: after}
}

// failing returns the need of an operation that fails.
func failing(message string) api.Need { return api.Need{Kind: api.NeedError, Str: message} }

// tooLong is the failure of a chain of more than MaxChain values.
func tooLong() api.Need { return failing("chain of metatables too long") }

// wantSame checks that a heap was not changed since the last look at it.
func wantSame(t *testing.T, h *heap.Heap) {
	t.Helper()
	if l := h.Touched(); len(l) != 0 {
		t.Errorf("the objects %v were changed", l)
	}
}

// odd is a value together with the name of its type.
type odd struct {
	v        api.Value
	typeName string
}

// odds returns values that have no fields and no metatable in a heap where objects have identities from 1 to 9.
func odds() []odd {
	return []odd{
		{none, "nil"}, {api.Value{Ref: 1}, "nil"}, {truth(0), "boolean"}, {truth(1), "boolean"}, {num(7), "number"}, {api.Value{Kind: api.Number, Num: api.Num{P: 1, Q: 2}}, "number"}, {api.Value{Kind: api.Number}, "number"},
		{host("print"), "function"}, {host(""), "function"}, {object(api.Function, 1), "function"}, {object(api.Function, 10), "function"}, {object(api.Thread, 1), "thread"}, {object(api.Thread, 10), "thread"},
		{object(api.Data, 1), "userdata"}, {object(api.Data, 10), "userdata"}, {object(api.Data, 0), "userdata"}, {object(-1, 1), ""}, {object(99, 1), ""}, {object(math.MinInt, 1), ""}, {object(math.MaxInt, 1), ""},
	}
}

// rich returns a heap in which the table with the identity 1 has metamethods for all events, which are no functions.
func rich(t *testing.T) (*heap.Heap, api.Value) {
	t.Helper()
	h := heap.New()
	v := newTable(t, h)
	for _, event := range events() {
		with(t, h, v, event, str("m"+event))
	}
	h.Touched()
	return h, v
}

// TestHandler covers P15.1 for tables and host objects.
func TestHandler(t *testing.T) {
	h := heap.New()
	for _, v := range []api.Value{newTable(t, h), newData(t, h, "d")} {
		for i, event := range append(events(), "", "other", long(api.MaxString)) {
			if m := meta.Handler(h, v, event); m != none {
				t.Errorf("Handler(%v, %.20q): %v; want nil", v, event, m)
			}
			for _, x := range []api.Value{num(i), host("f"), newFunc(t, h), truth(0), v} {
				with(t, h, v, event, x)
				if m := meta.Handler(h, v, event); m != x {
					t.Errorf("Handler(%v, %.20q): %v; want %v", v, event, m, x)
				}
			}
			must(t, h.Set(h.Meta(v), str(event), none))
			if m := meta.Handler(h, v, event); m != none {
				t.Errorf("Handler(%v, %.20q): %v after it was removed", v, event, m)
			}
		}
		with(t, h, v, "__len", num(1))
		h.Touched()
		for _, event := range []string{"__le", "__lenx", "__LEN", "len", "__len\x00", long(api.MaxString + 1)} {
			if m := meta.Handler(h, v, event); m != none {
				t.Errorf("Handler(%v, %.20q): %v", v, event, m)
			}
		}
		wantSame(t, h)
		must(t, h.Drop(h.Meta(v).Ref))
		if m := meta.Handler(h, v, "__len"); m != none {
			t.Errorf("Handler of a metatable that was removed: %v", m)
		}
	}
}

// TestNoHandler covers P15.1 for values that can have no metatable: also those with the identity of a table.
func TestNoHandler(t *testing.T) {
	h, v := rich(t)
	list := append(odds(), odd{v: str("")}, odd{v: str("m__len")}, odd{v: object(api.Table, 3)}, odd{v: object(api.Table, 0)}, odd{v: object(api.String, 1)}, odd{v: object(api.Bool, 1)})
	for _, event := range events() {
		if m := meta.Handler(h, v, event); m != str("m"+event) {
			t.Errorf("Handler(%s): %v", event, m)
		}
		for _, x := range list {
			if m := meta.Handler(h, x.v, event); m != none {
				t.Errorf("Handler(%v, %s): %v", x.v, event, m)
			}
		}
	}
	wantSame(t, h)
}

// TestHandlerIsRaw covers P15.1: the field of the metatable is read without the metamethods of the metatable itself.
func TestHandlerIsRaw(t *testing.T) {
	h := heap.New()
	v, base := newTable(t, h), newTable(t, h)
	with(t, h, v, "__index", base)
	must(t, h.Set(base, str("__len"), num(1)))
	with(t, h, h.Meta(v), "__index", base)
	if m := meta.Handler(h, v, "__len"); m != none {
		t.Errorf("Handler: %v", m)
	}
	must(t, h.SetMeta(v, v)) // a table can be its own metatable
	must(t, h.Set(v, str("__len"), num(2)))
	if m := meta.Handler(h, v, "__len"); m != num(2) {
		t.Errorf("Handler of a table that is its own metatable: %v", m)
	}
}

// TestCallee covers P15.4 for functions and threads: also those that the heap does not have.
func TestCallee(t *testing.T) {
	h := heap.New()
	all := []api.Value{newFunc(t, h), newThread(t, h), host("print"), host(""), object(api.Function, 99), object(api.Thread, 99), object(api.Thread, 1), {Kind: api.Function, Ref: -1, Str: "x"}}
	h.Touched()
	for _, f := range all {
		for _, args := range [][]api.Value{nil, {}, {none}, {num(1), none, f}, {{Kind: 99}}, slices.Repeat([]api.Value{num(3)}, api.MaxArgs)} {
			if g, l, e := meta.Callee(h, f, args); g != f || !slices.Equal(l, args) || e != api.OK {
				t.Errorf("Callee(%v, %.99v): %v, %.99v, error %d", f, args, g, l, int(e))
			}
		}
	}
	wantSame(t, h)
}

// TestCalleeByMetamethod covers P15.4 for values that are called by their metamethods.
func TestCalleeByMetamethod(t *testing.T) {
	h := heap.New()
	a, b, d := newTable(t, h), newTable(t, h), newData(t, h, "d")
	with(t, h, a, "__call", b)
	with(t, h, b, "__call", d)
	for _, f := range []api.Value{host("print"), newFunc(t, h), newThread(t, h)} {
		with(t, h, d, "__call", f)
		for _, args := range [][]api.Value{nil, {none}, {num(1), num(2)}} {
			for _, x := range [][]api.Value{{d}, {d, b}, {d, b, a}} { // what is put before the arguments
				want := append(slices.Clone(x), args...)
				if g, l, e := meta.Callee(h, x[len(x)-1], args); g != f || !slices.Equal(l, want) || e != api.OK {
					t.Errorf("Callee(%v, %v): %v, %v, error %d; want %v, %v", x[len(x)-1], args, g, l, int(e), f, want)
				}
			}
		}
	}
}

// wantNoCallee checks that a call returns an error and nothing else.
func wantNoCallee(t *testing.T, h *heap.Heap, f api.Value, args []api.Value, want api.Errno) {
	t.Helper()
	if g, l, e := meta.Callee(h, f, args); g != none || len(l) != 0 || e != want {
		t.Errorf("Callee(%v, %d arguments): %v, %.99v, error %d; want the error %d", f, len(args), g, l, int(e), int(want))
	}
}

// TestCalleeOfNoFunction covers ErrType of P15.4.
func TestCalleeOfNoFunction(t *testing.T) {
	h := heap.New()
	v, d, other := newTable(t, h), newData(t, h, "d"), newTable(t, h)
	with(t, h, other, "__call", v)
	many := slices.Repeat([]api.Value{num(1)}, api.MaxArgs+1)
	wrong := []api.Value{v, d, str("print"), str(""), object(api.Table, 99)}
	for _, x := range odds() {
		if x.typeName != "function" && x.typeName != "thread" {
			wrong = append(wrong, x.v)
		}
	}
	for _, f := range append(wrong, other) {
		wantNoCallee(t, h, f, nil, api.ErrType)
		wantNoCallee(t, h, f, many, api.ErrType) // before ErrLimit
	}
	for _, f := range []api.Value{num(1), truth(0), str("print"), d, object(api.Table, 99)} {
		with(t, h, v, "__call", f)
		wantNoCallee(t, h, v, nil, api.ErrType)
		wantNoCallee(t, h, other, []api.Value{num(1)}, api.ErrType)
	}
	with(t, h, newTable(t, h), "__call", host("print"))
	with(t, h, v, "__call", none)
	with(t, h, v, "__index", host("print"))
	wantNoCallee(t, h, v, nil, api.ErrType)
}

// TestCalleeLimit covers ErrLimit of P15.4: the values put before the arguments count.
func TestCalleeLimit(t *testing.T) {
	h := heap.New()
	list := linked(t, h, "__call", 5)
	with(t, h, list[4], "__call", host("print"))
	for i, f := range append(list, host("print")) {
		added := 5 - i
		for _, n := range []int{0, 1, api.MaxArgs - added - 1, api.MaxArgs - added} {
			args := slices.Repeat([]api.Value{num(n)}, n)
			if g, l, e := meta.Callee(h, f, args); g != host("print") || len(l) != n+added || !slices.Equal(l[added:], args) || e != api.OK {
				t.Errorf("Callee with %d added to %d arguments: %v, %d arguments, error %d", added, n, g, len(l), int(e))
			}
		}
		for _, n := range []int{api.MaxArgs - added + 1, api.MaxArgs + 1, 2 * api.MaxArgs} {
			wantNoCallee(t, h, f, slices.Repeat([]api.Value{num(n)}, n), api.ErrLimit)
		}
	}
}

// TestCalleeChain covers ErrLoop of P15.4, and P15.10 for Callee.
func TestCalleeChain(t *testing.T) {
	many := slices.Repeat([]api.Value{num(1)}, api.MaxArgs+1)
	for n := 1; n <= api.MaxChain+3; n++ {
		h := heap.New()
		list := linked(t, h, "__call", n)
		last := list[n-1]
		if n <= api.MaxChain {
			wantNoCallee(t, h, list[0], nil, api.ErrType)
			wantNoCallee(t, h, list[0], many, api.ErrType)
		} else {
			wantNoCallee(t, h, list[0], nil, api.ErrLoop)
		}
		for _, f := range []api.Value{host("print"), newFunc(t, h), newThread(t, h)} {
			with(t, h, last, "__call", f)
			if n > api.MaxChain {
				wantNoCallee(t, h, list[0], nil, api.ErrLoop)
				wantNoCallee(t, h, list[0], many, api.ErrLoop) // before ErrLimit
				continue
			}
			want := append(slices.Clone(list), num(1))
			slices.Reverse(want[:n])
			if g, l, e := meta.Callee(h, list[0], []api.Value{num(1)}); g != f || !slices.Equal(l, want) || e != api.OK {
				t.Errorf("Callee in a chain of %d tables: %v, %v, error %d", n, g, l, int(e))
			}
			wantNoCallee(t, h, list[0], many, api.ErrLimit)
		}
		with(t, h, last, "__call", list[0])
		wantNoCallee(t, h, list[n/2], nil, api.ErrLoop)
	}
}

// TestCalleeMemory covers rule 4 for Callee: the arguments are neither changed nor shared.
func TestCalleeMemory(t *testing.T) {
	h := heap.New()
	v := with(t, h, newTable(t, h), "__call", host("print"))
	for _, f := range []api.Value{v, host("print")} {
		args := []api.Value{num(1), num(2), num(3), num(4)}
		_, l, _ := meta.Callee(h, f, args[1:3])
		l = append(l, num(9))
		for i := range l {
			l[i] = none
		}
		if !slices.Equal(args, []api.Value{num(1), num(2), num(3), num(4)}) {
			t.Errorf("Callee(%v): the arguments became %v", f, args)
		}
	}
}

// TestText covers P15.5 for values without metamethods.
func TestText(t *testing.T) {
	h := heap.New()
	for _, x := range []struct {
		v    api.Value
		want string
	}{
		{newTable(t, h), "table: 1"}, {newFunc(t, h), "function: 2"}, {newThread(t, h), "thread: 3"}, {newData(t, h, "file"), "file: 4"}, {newData(t, h, ""), ": 5"}, {newData(t, h, long(api.MaxName)), long(api.MaxName) + ": 6"},
		{object(api.Table, 4), "table: 4"}, {object(api.Data, 1), "userdata: 1"}, {object(api.Data, 77), "userdata: 77"}, {object(api.Table, math.MinInt), "table: " + strconv.Itoa(math.MinInt)},
		{none, "nil"}, {truth(0), "false"}, {truth(1), "true"}, {num(-7), "-7"}, {api.Value{Kind: api.Number, Num: api.Num{P: 1, Q: 2}}, "1/2"}, {host("string.len"), "builtin: string.len"}, {object(99, 1), ""}, {object(-1, 4), ""},
		{str(""), ""}, {str("a\x00\xff"), "a\x00\xff"}, {str(long(api.MaxString)), long(api.MaxString)}, {str("ab" + long(api.MaxString)), "ab" + long(api.MaxString-2)},
		{host(long(api.MaxString - 9)), "builtin: " + long(api.MaxString-9)}, {host(long(api.MaxString)), "builtin: " + long(api.MaxString-9)},
	} {
		h.Touched()
		wantNeed(t, "Text", meta.Text(h, x.v), done(str(x.want)))
		wantSame(t, h)
	}
	must(t, h.Drop(4))
	wantNeed(t, "Text of a host object that was removed", meta.Text(h, object(api.Data, 4)), done(str("userdata: 4")))
}

// TestTextByMetamethods covers P15.5 for the metamethods __tostring and __name.
func TestTextByMetamethods(t *testing.T) {
	h := heap.New()
	for i, v := range []api.Value{newTable(t, h), newData(t, h, "file")} {
		plain, id := []string{"table: 1", "file: 2"}[i], strconv.Itoa(i+1)
		for _, name := range []api.Value{none, num(5), truth(0), truth(1), host("f"), v} { // these are no strings
			with(t, h, v, "__name", name)
			wantNeed(t, "Text", meta.Text(h, v), done(str(plain)))
		}
		for _, name := range []string{"", "Point", "5", long(api.MaxString - 4), long(api.MaxString - 3)} {
			with(t, h, v, "__name", str(name))
			wantNeed(t, "Text with a name", meta.Text(h, v), done(str(name+": "+id)))
		}
		for n, end := range []string{"", ":", ": "} { // what the limit leaves
			with(t, h, v, "__name", str(long(api.MaxString-n)))
			wantNeed(t, "Text with a long name", meta.Text(h, v), done(str(long(api.MaxString-n)+end)))
		}
		for _, f := range []api.Value{host("f"), newFunc(t, h), newThread(t, h), v, str("x"), num(1), truth(0)} {
			with(t, h, v, "__tostring", f)
			h.Touched()
			wantNeed(t, "Text by __tostring", meta.Text(h, v), calling(f, api.AfterOne, v))
			wantSame(t, h)
		}
	}
}

// TestLength covers P15.6.
func TestLength(t *testing.T) {
	h := heap.New()
	v, d := newTable(t, h), newData(t, h, "file")
	check := func(v api.Value, want api.Need) {
		t.Helper()
		h.Touched()
		wantNeed(t, "Length", meta.Length(h, v), want)
		wantSame(t, h)
	}
	for i := range 4 {
		check(v, done(num(i)))
		must(t, h.Set(v, num(i+1), str("x")))
		must(t, h.Set(v, num(i+7), none))
	}
	must(t, h.Set(v, str("k"), str("x")))
	check(v, done(num(4)))
	check(d, failing("attempt to get length of a userdata value"))
	check(object(api.Table, 99), done(num(0)))
	check(object(api.Table, 2), done(num(0)))
	for _, s := range []string{"", "a", "a\x00b", "é", long(api.MaxString), long(api.MaxString + 1)} {
		check(str(s), done(num(len(s))))
	}
	for _, x := range odds() {
		check(x.v, failing("attempt to get length of a "+x.typeName+" value"))
	}
	for _, x := range []api.Value{v, d} {
		for _, f := range []api.Value{host("f"), newFunc(t, h), newThread(t, h), v, num(1), truth(0)} {
			with(t, h, x, "__len", f)
			check(x, calling(f, api.AfterOne, x, x))
		}
	}
}

// TestWeakness covers P15.7.
func TestWeakness(t *testing.T) {
	h := heap.New()
	v, d := newTable(t, h), newData(t, h, "d")
	check := func(x api.Value, want int) {
		t.Helper()
		if w := meta.Weakness(h, x); w != want {
			t.Errorf("Weakness(%v) with %.20v: %d; want %d", x, meta.Handler(h, x, "__mode"), w, want)
		}
	}
	check(v, api.Strong)
	for mode, want := range map[api.Value]int{
		str(""): api.Strong, str("k"): api.WeakKeys, str("v"): api.WeakVals, str("kv"): api.WeakBoth, str("vk"): api.WeakBoth, str("KV"): api.Strong, str("x"): api.Strong, str("weak keys"): api.WeakKeys, str("kkk"): api.WeakKeys,
		str("give"): api.WeakVals, str(long(api.MaxString-1) + "v"): api.WeakVals, str("k" + long(api.MaxString-2) + "v"): api.WeakBoth, num(1): api.Strong, truth(1): api.Strong, host("kv"): api.Strong, v: api.Strong, none: api.Strong,
	} {
		with(t, h, v, "__mode", mode)
		with(t, h, d, "__mode", mode)
		h.Touched()
		check(v, want)
		check(d, api.Strong)
		wantSame(t, h)
	}
	with(t, h, v, "__mode", str("kv"))
	for _, x := range append(odds(), odd{v: str("kv")}, odd{v: object(api.Table, 99)}, odd{v: h.Meta(v)}) {
		check(x.v, api.Strong)
	}
}

// TestFinalizerAndCloser covers P15.8.
func TestFinalizerAndCloser(t *testing.T) {
	type getter func(h *heap.Heap, v api.Value) (api.Value, bool)
	check := func(h *heap.Heap, get getter, v, want api.Value) {
		t.Helper()
		if f, found := get(h, v); f != want || found != (want != none) {
			t.Errorf("of %v: %v, %v; want %v", v, f, found, want)
		}
	}
	for event, get := range map[string]getter{"__gc": meta.Finalizer, "__close": meta.Closer} {
		h, v := rich(t)
		check(h, get, v, str("m"+event))
		check(nil, get, v, none)
		for _, x := range append(odds(), odd{v: str("x")}, odd{v: object(api.Table, 2)}, odd{v: object(api.Table, 99)}) {
			check(h, get, x.v, none)
		}
		wantSame(t, h)
		d := newData(t, h, "d")
		for _, x := range []api.Value{v, d} {
			for _, f := range []api.Value{host("f"), newFunc(t, h), truth(0), num(0), x, none} { // nil removes it
				with(t, h, x, event, f)
				check(h, get, x, f)
			}
		}
	}
}
