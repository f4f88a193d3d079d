package meta_test

import (
	"slices"
	"strconv"
	"strings"
	"testing"

	"scripting/api"
	"scripting/heap"
	"scripting/meta"
)

// chance returns numbers that look like those of chance.
type chance struct{ state uint64 }

// below returns a number from 0 to n - 1.
func (c *chance) below(n int) int {
	c.state = c.state*6364136223846793005 + 1442695040888963407
	return int(c.state >> 33 % uint64(n))
}

// pick returns one of some values.
func (c *chance) pick(list []api.Value) api.Value { return list[c.below(len(list))] }

// world is a heap, together with maps that say what is in it.
type world struct {
	h      *heap.Heap
	all    []api.Value // its objects, and some other values
	tables []api.Value
	fields map[api.Value]map[api.Value]api.Value
	metas  map[api.Value]api.Value
	names  map[api.Value]string
}

// newWorld returns a heap with objects whose metatables and metamethods are chosen by chance.
func newWorld(t *testing.T, c *chance) *world {
	w := &world{h: heap.New(), fields: map[api.Value]map[api.Value]api.Value{}, metas: map[api.Value]api.Value{}, names: map[api.Value]string{}}
	for range 2 + c.below(5) {
		v := newTable(t, w.h)
		w.tables = append(w.tables, v)
		w.fields[v] = map[api.Value]api.Value{}
	}
	w.all = append(w.all, w.tables...)
	for _, name := range []string{"file", ""} {
		v := newData(t, w.h, name)
		w.names[v] = name
		w.all = append(w.all, v)
	}
	hosts := w.all
	w.all = append(slices.Clone(hosts), newFunc(t, w.h), newThread(t, w.h), host("f"), str("upper"), str("kv"), num(2), truth(0), none)
	for _, v := range hosts {
		if c.below(4) > 0 {
			m := c.pick(w.tables)
			must(t, w.h.SetMeta(v, m))
			w.metas[v] = m
		}
	}
	for _, v := range w.tables {
		for _, k := range w.keys() {
			if c.below(3) == 0 {
				w.set(t, v, k, c.pick(w.all))
			}
		}
	}
	return w
}

// keys returns the keys that fields of the world have.
func (w *world) keys() []api.Value {
	list := []api.Value{num(1), num(2), str("upper"), w.tables[0]}
	for _, event := range []string{"__index", "__newindex", "__call", "__tostring", "__name", "__len", "__mode", "__gc", "__close"} {
		list = append(list, str(event))
	}
	return list
}

// set sets a field of a table.
func (w *world) set(t *testing.T, v, k, x api.Value) {
	t.Helper()
	must(t, w.h.Set(v, k, x))
	w.fields[v][k] = x
}

// handler is P15.1.
func (w *world) handler(v api.Value, event string) api.Value { return w.fields[w.metas[v]][str(event)] }

// way returns the values of the chain that begins with a value: up to the one at which it ends, or up to value number
// MaxChain + 1, which there may not be.
func (w *world) way(v api.Value, event string, end func(at, handler api.Value) bool) ([]api.Value, bool) {
	list := []api.Value{v}
	for len(list) <= api.MaxChain {
		at := list[len(list)-1]
		handler := w.handler(at, event)
		if end(at, handler) {
			return list, true
		}
		list = append(list, handler)
	}
	return list, false
}

// isCalled reports whether a metamethod is called in the place of its event.
func isCalled(handler api.Value) bool {
	return handler.Kind == api.Function || handler.Kind == api.Builtin
}

// typeOf returns the name of the type of a value of the world.
func typeOf(v api.Value) string {
	return []string{"nil", "boolean", "number", "string", "table", "function", "function", "thread", "userdata"}[v.Kind]
}

// wantIndex is P15.2.
func (w *world) wantIndex(v, k api.Value) api.Need {
	list, found := w.way(v, "__index", func(at, handler api.Value) bool {
		return w.fields[at][k] != none || at.Kind == api.String || handler == none || isCalled(handler)
	})
	at := list[len(list)-1]
	handler := w.handler(at, "__index")
	switch {
	case !found:
		return tooLong()
	case w.fields[at][k] != none:
		return done(w.fields[at][k])
	case at.Kind == api.String && k == str("upper"):
		return done(host("string.upper"))
	case at.Kind == api.String, at.Kind == api.Table && handler == none:
		return done(none)
	case handler == none:
		return failing("attempt to index a " + typeOf(at) + " value")
	}
	return calling(handler, api.AfterOne, at, k)
}

// wantAssign is P15.3. It also does what is to be done.
func (w *world) wantAssign(v, k, x api.Value) api.Need {
	list, found := w.way(v, "__newindex", func(at, handler api.Value) bool {
		return w.fields[at][k] != none || handler == none || isCalled(handler)
	})
	at := list[len(list)-1]
	handler := w.handler(at, "__newindex")
	switch {
	case !found:
		return tooLong()
	case w.fields[at][k] != none || at.Kind == api.Table && handler == none:
		if k == none {
			return failing("index is nil")
		}
		w.fields[at][k] = x
		return done(none)
	case handler == none:
		return failing("attempt to index a " + typeOf(at) + " value")
	}
	return calling(handler, api.AfterNone, at, k, x)
}

// checkCallee is P15.4.
func (w *world) checkCallee(t *testing.T, f api.Value, args []api.Value) {
	t.Helper()
	list, found := w.way(f, "__call", func(at, handler api.Value) bool {
		return isCalled(at) || at.Kind == api.Thread || handler == none
	})
	last := list[len(list)-1]
	wantE := api.OK
	switch {
	case !found && !isCalled(last) && last.Kind != api.Thread:
		wantE = api.ErrLoop
	case !isCalled(last) && last.Kind != api.Thread:
		wantE = api.ErrType
	}
	want := slices.Clone(list[:len(list)-1])
	slices.Reverse(want)
	want = append(want, args...)
	if wantE != api.OK {
		last, want = none, nil
	}
	if g, l, e := meta.Callee(w.h, f, args); g != last || !slices.Equal(l, want) || e != wantE {
		t.Errorf("Callee(%v, %v): %v, %v, error %d; want %v, %v, error %d", f, args, g, l, int(e), last, want, int(wantE))
	}
}

// wantText is P15.5.
func (w *world) wantText(v api.Value) api.Need {
	name, isData := w.names[v]
	text := map[int]string{api.Nil: "nil", api.Bool: "false", api.Number: "2", api.String: v.Str, api.Builtin: "builtin: f"}[v.Kind]
	switch {
	case w.handler(v, "__tostring") != none:
		return calling(w.handler(v, "__tostring"), api.AfterOne, v)
	case w.handler(v, "__name").Kind == api.String:
		text = w.handler(v, "__name").Str + ": " + strconv.Itoa(v.Ref)
	case isData:
		text = name + ": " + strconv.Itoa(v.Ref)
	case text == "":
		text = typeOf(v) + ": " + strconv.Itoa(v.Ref)
	}
	return done(str(text))
}

// wantLength is P15.6.
func (w *world) wantLength(t *testing.T, v api.Value) api.Need {
	t.Helper()
	switch handler := w.handler(v, "__len"); {
	case v.Kind == api.String:
		return done(num(len(v.Str)))
	case handler != none:
		return calling(handler, api.AfterOne, v, v)
	case v.Kind == api.Table:
		n, e := w.h.Len(v)
		must(t, e)
		return done(num(n))
	}
	return failing("attempt to get length of a " + typeOf(v) + " value")
}

// checkOthers checks P15.1 and P15.5 to P15.8.
func (w *world) checkOthers(t *testing.T, v api.Value) {
	t.Helper()
	wantNeed(t, "Text", meta.Text(w.h, v), w.wantText(v))
	wantNeed(t, "Length", meta.Length(w.h, v), w.wantLength(t, v))
	mode, weak := w.handler(v, "__mode"), api.Strong
	if mode.Kind == api.String && v.Kind == api.Table {
		weak = strings.Count(mode.Str, "k") + 2*strings.Count(mode.Str, "v") // there is at most one of each
	}
	if got := meta.Weakness(w.h, v); got != weak {
		t.Errorf("Weakness(%v): %d; want %d", v, got, weak)
	}
	finalizer, hasFinalizer := meta.Finalizer(w.h, v)
	closer, hasCloser := meta.Closer(w.h, v)
	gc, cl := w.handler(v, "__gc"), w.handler(v, "__close")
	if finalizer != gc || hasFinalizer != (gc != none) || closer != cl || hasCloser != (cl != none) || meta.Handler(w.h, v, "__gc") != gc {
		t.Errorf("Finalizer(%v): %v, %v; Closer: %v, %v; want %v and %v", v, finalizer, hasFinalizer, closer, hasCloser, gc, cl)
	}
}

// checkFields checks that the tables have the fields that they should have, and no others.
func (w *world) checkFields(t *testing.T) {
	t.Helper()
	for v, fields := range w.fields {
		count := 0
		for k, x := range fields {
			if got, e := w.h.Get(v, k); got != x || e != api.OK {
				t.Errorf("the field %v of %v: %v, error %d; want %v", k, v, got, int(e), x)
			}
			if x != none {
				count++
			}
		}
		k, _, found, e := w.h.Next(v, none)
		for ; found; k, _, found, e = w.h.Next(v, k) {
			count--
		}
		if count != 0 || e != api.OK {
			t.Errorf("%v has %d fields less, error %d", v, count, int(e))
		}
	}
	for v, m := range w.metas {
		if w.h.Meta(v) != m {
			t.Errorf("the metatable of %v: %v; want %v", v, w.h.Meta(v), m)
		}
	}
}

// TestWorlds checks P15.1 to P15.8 in heaps that are made by chance.
func TestWorlds(t *testing.T) {
	c := &chance{state: 15}
	for range 3000 {
		w := newWorld(t, c)
		args := []api.Value{num(1), none}[:c.below(3)]
		w.h.Touched()
		for _, v := range w.all {
			w.checkOthers(t, v)
			w.checkCallee(t, v, args)
			for _, k := range append(w.keys(), none) {
				wantNeed(t, "Index", meta.Index(w.h, v, k), w.wantIndex(v, k))
			}
		}
		wantSame(t, w.h)
		for range 20 {
			v, k, x := c.pick(w.all), c.pick(append(w.keys(), none)), c.pick(w.all)
			want := w.wantAssign(v, k, x)
			wantNeed(t, "Assign", meta.Assign(w.h, v, k, x), want)
			wantNeed(t, "Index", meta.Index(w.h, v, k), w.wantIndex(v, k))
			if got := meta.Index(w.h, v, k); w.metas[v] == none && want.Kind == api.NeedValue && got.Value != x {
				t.Errorf("Index after Assign of %v: %v", x, got) // P15.9
			}
		}
		w.checkFields(t)
		if t.Failed() {
			return
		}
	}
}

// TestAnyArguments covers rule 1: no call panics, whatever its arguments are.
func TestAnyArguments(t *testing.T) {
	h, v := rich(t)
	list := append(oddKeys(), v, newData(t, h, "d"), str("upper"), num(1), truth(1))
	for _, x := range odds() {
		list = append(list, x.v)
	}
	for _, g := range []*heap.Heap{nil, heap.New(), h} {
		for _, a := range list {
			meta.Callee(g, a, list)
			meta.Weakness(g, a)
			meta.Finalizer(g, a)
			meta.Closer(g, a)
			for _, need := range []api.Need{meta.Text(g, a), meta.Length(g, a)} {
				wantOneOf(t, need)
			}
			for _, b := range list {
				wantOneOf(t, meta.Index(g, a, b))
				for _, x := range list {
					wantOneOf(t, meta.Assign(g, a, b, x))
				}
			}
		}
	}
}

// wantOneOf checks that a need has the fields of its kind and no others (rule 8).
func wantOneOf(t *testing.T, n api.Need) {
	t.Helper()
	isCall, isError := n.Func != none || len(n.Args) > 0 || n.After != 0, n.Str != ""
	if n.Kind < api.NeedValue || n.Kind > api.NeedError || isCall != (n.Kind == api.NeedCall) || isError != (n.Kind == api.NeedError) || n.Value != none && n.Kind != api.NeedValue {
		t.Errorf("%.299v", n)
	}
}
