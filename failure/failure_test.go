package failure_test

import (
	"math"
	"slices"
	"strconv"
	"strings"
	"testing"

	"scripting/api"
	"scripting/failure"
)

// num returns an integer as a value.
func num(n int) api.Value { return api.Value{Kind: api.Number, Num: api.Num{P: n, Q: 1}} }

// str returns a string as a value.
func str(s string) api.Value { return api.Value{Kind: api.String, Str: s} }

// host returns the place of a function of the host.
func host(name string) api.Place { return api.Place{Name: name} }

// script returns the place of a function of the script.
func script(name string, line int) api.Place { return api.Place{Name: name, Line: line} }

// tail returns a place as that of a call that replaced another one.
func tail(p api.Place) api.Place {
	p.Tail = true
	return p
}

// numbered returns so many places of functions of the script, with the lines 1, 2, ..
func numbered(n int) []api.Place {
	var trace []api.Place
	for i := range n {
		trace = append(trace, script("f", i+1))
	}
	return trace
}

// others returns values of all kinds other than String, some of them not valid.
func others() []api.Value {
	return []api.Value{{}, {Kind: api.Bool}, {Kind: api.Bool, Ref: 1}, num(-api.MaxNum), {Kind: api.Number, Num: api.Num{P: 1, Q: 3}}, {Kind: api.Table, Ref: 5}, {Kind: api.Function, Ref: 6}, {Kind: api.Builtin, Str: "error"},
		{Kind: api.Thread, Ref: 7}, {Kind: api.Data, Ref: 8}, {Str: "no"}, {Kind: api.Number, Str: "no"}, {Kind: -1, Str: "no"}, {Kind: api.Data + 1, Str: "no"}, {Kind: math.MinInt}, {Kind: math.MaxInt}}
}

// brief returns a value without the rest of a long string.
func brief(v api.Value) api.Value {
	v.Str = v.Str[:min(len(v.Str), 40)]
	return v
}

// wantRaise checks Raise.
func wantRaise(t *testing.T, v api.Value, level int, trace []api.Place, want api.Value) {
	t.Helper()
	before := slices.Clone(trace)
	f := failure.Raise(v, level, trace)
	if f.Value != want {
		t.Errorf("Raise(%v, %d, %v): the value %v; want %v", brief(v), level, trace, brief(f.Value), brief(want))
	}
	if !slices.Equal(f.Trace, before) || !slices.Equal(trace, before) {
		t.Errorf("Raise(%v, %d, %v): the traceback %v", brief(v), level, before, f.Trace)
	}
}

// TestRaise covers P19.1 for strings: the example, every level, and places without a line.
func TestRaise(t *testing.T) {
	trace := []api.Place{host("error"), script("f", 7)}
	wantRaise(t, str("no"), 1, trace, str("7: no"))
	wantRaise(t, str("no"), 2, trace, str("no"))
	trace = []api.Place{host("error"), tail(script("f", 7)), host("pcall"), script("g", -9), script("", math.MaxInt), tail(host("h")), script("main", 12), host("x"), script("y", math.MinInt)}
	for level, want := range map[int]string{math.MinInt: "no", math.MinInt + 1: "no", -1 << 32: "no", -1: "no", 0: "no", 1: "7: no", 2: "9223372036854775807: no", 3: "12: no", 4: "no", 5: "no", 1 << 32: "no", 1<<32 + 1: "no", math.MaxInt: "no"} {
		wantRaise(t, str("no"), level, trace, str(want))
	}
	for text, want := range map[string]string{"": "12: ", " ": "12:  ", "3: x": "12: 3: x", "\x00\xff\n": "12: \x00\xff\n"} {
		wantRaise(t, str(text), 3, trace, str(want))
	}
	wantRaise(t, str("no"), 1, nil, str("no"))
	wantRaise(t, str("no"), 1, []api.Place{}, str("no"))
	wantRaise(t, str("no"), 1, []api.Place{host("f"), script("g", -1)}, str("no"))
	wantRaise(t, str("no"), 150, numbered(150), str("150: no"))
	wantRaise(t, str("no"), 151, numbered(150), str("no"))
}

// TestRaiseOfOthers covers P19.1 for values that are no strings, and for the other fields of a string.
func TestRaiseOfOthers(t *testing.T) {
	for _, v := range others() {
		for level := range 4 {
			wantRaise(t, v, level, numbered(2), v)
		}
	}
	odd := api.Value{Kind: api.String, Str: "no", Ref: -3, Num: api.Num{P: 2, Q: 2}}
	wantRaise(t, odd, 0, numbered(2), odd)
	odd.Str = "2: no"
	wantRaise(t, api.Value{Kind: api.String, Str: "no", Ref: -3, Num: api.Num{P: 2, Q: 2}}, 2, numbered(2), odd)
}

// TestRaiseOfLongStrings covers P19.1 for strings that have just room for a position, or not.
func TestRaiseOfLongStrings(t *testing.T) {
	for _, line := range []int{1, 9, 10, 99, 100, 65536, math.MaxInt} {
		trace := []api.Place{host("error"), script("f", line)}
		prefix := strconv.Itoa(line) + ": "
		for n := api.MaxString - len(prefix) - 2; n <= api.MaxString+2; n++ {
			text := strings.Repeat("x", n)
			want := text
			if n <= api.MaxString-len(prefix) {
				want = prefix + text
			}
			wantRaise(t, str(text), 1, trace, str(want))
		}
	}
	wantRaise(t, str(strings.Repeat("x", 1<<20)), 1, numbered(1), str(strings.Repeat("x", 1<<20)))
}

// wantMessage checks Message.
func wantMessage(t *testing.T, text string, trace []api.Place, want string) {
	t.Helper()
	before := slices.Clone(trace)
	f := failure.Message(text, trace)
	if f.Value != str(want) || !slices.Equal(f.Trace, before) || !slices.Equal(trace, before) {
		t.Errorf("Message(%.20q, %v): %v with %v; want %.40q", text, before, brief(f.Value), f.Trace, want)
	}
}

// TestMessage covers P19.2.
func TestMessage(t *testing.T) {
	trace := []api.Place{host("pcall"), script("f", 31), script("main", 2)}
	wantMessage(t, "division by zero", trace, "31: division by zero")
	wantMessage(t, "division by zero", trace[:1], "division by zero")
	wantMessage(t, "", trace, "31: ")
	wantMessage(t, "", nil, "")
	two := "\u00e9" // the limit counts bytes
	for n := api.MaxString - 6; n <= api.MaxString+3; n++ {
		for _, end := range []string{"", "ab", two} {
			text := strings.Repeat("x", n) + end
			cut := text[:min(len(text), api.MaxString)]
			wantMessage(t, text, nil, cut)
			if len(cut) <= api.MaxString-4 {
				cut = "31: " + cut
			}
			wantMessage(t, text, trace, cut)
		}
	}
	wantMessage(t, strings.Repeat("y", 1<<20), trace, strings.Repeat("y", api.MaxString))
}

// TestText covers P19.3, and the example of the chapter.
func TestText(t *testing.T) {
	if s := failure.Text(failure.Message("division by zero", []api.Place{script("main", 3)})); s != "3: division by zero" {
		t.Errorf("the example: %q", s)
	}
	for v, want := range map[api.Value]string{
		{}: "nil", {Kind: api.Bool}: "false", {Kind: api.Bool, Ref: 1}: "true", num(-7): "-7", {Kind: api.Number, Num: api.Num{P: 1, Q: 3}}: "1/3", str(""): "", str("no\x00"): "no\x00",
		{Kind: api.Table, Ref: 5}: "table: 5", {Kind: api.Function, Ref: 6}: "function: 6", {Kind: api.Builtin, Str: "error"}: "builtin: error", {Kind: api.Thread, Ref: 7}: "thread: 7", {Kind: api.Data, Ref: 8}: "userdata: 8",
		{Kind: -1, Str: "no"}: "", {Kind: api.Data + 1, Ref: 1}: "",
	} {
		for _, trace := range [][]api.Place{nil, numbered(3)} {
			if s := failure.Text(api.Failure{Value: v, Trace: trace}); s != want {
				t.Errorf("Text of %v: %q; want %q", v, s, want)
			}
		}
	}
}

// wantLines checks Lines.
func wantLines(t *testing.T, trace []api.Place, want ...string) {
	t.Helper()
	before := slices.Clone(trace)
	if list := failure.Lines(api.Failure{Value: str("no"), Trace: trace}); !slices.Equal(list, want) {
		t.Errorf("Lines of %v: %q; want %q", trace, list, want)
	}
	if !slices.Equal(trace, before) {
		t.Errorf("Lines changed the traceback %v: %v", before, trace)
	}
}

// TestLines covers P19.4: the example, and the parts of a line.
func TestLines(t *testing.T) {
	wantLines(t, nil)
	wantLines(t, []api.Place{})
	wantLines(t, []api.Place{tail(script("f", 7)), host("pcall")}, "f:7 (tail call)", "pcall")
	wantLines(t, []api.Place{script("f", 7), tail(host("pcall")), {}, tail(api.Place{}), script("", 1), tail(script("", 2))},
		"f:7", "pcall (tail call)", "", " (tail call)", ":1", ":2 (tail call)")
	wantLines(t, []api.Place{script("a", -1), tail(script("b", math.MinInt)), script("c", math.MaxInt), script("d:1", 10), script("e\n", 100), script("...", 0)},
		"a", "b (tail call)", "c:9223372036854775807", "d:1:10", "e\n:100", "...")
	wantLines(t, []api.Place{script("f", 7), script("f", 7), script("f", 7)}, "f:7", "f:7", "f:7")
}

// TestLinesOfLongTracebacks covers P19.4 for tracebacks that are shown whole, and for those that are not.
func TestLinesOfLongTracebacks(t *testing.T) {
	for _, n := range []int{9, 10, 11, 12, 20, 21, 22, 23, 32, 33, 150, 100000} {
		var want []string
		for i := 1; i <= n; i++ {
			switch {
			case n <= 21 || i <= 10 || i > n-11:
				want = append(want, "f:"+strconv.Itoa(i))
			case i == 11:
				want = append(want, "...")
			}
		}
		if list := failure.Lines(api.Failure{Trace: numbered(n)}); !slices.Equal(list, want) {
			t.Errorf("Lines of %d places: %q", n, list)
		}
	}
	trace := slices.Repeat([]api.Place{host("h"), tail(script("f", 3))}, 11)
	wantLines(t, trace[1:], slices.Repeat([]string{"f:3 (tail call)", "h"}, 11)[:21]...)
	want := slices.Repeat([]string{"h", "f:3 (tail call)"}, 11)
	want[10] = "..."
	wantLines(t, trace, want...)
}

// TestSame covers P19.5: every field counts, and so do the number and the order of the places.
func TestSame(t *testing.T) {
	long := strings.Repeat("x", api.MaxString)
	list := []api.Failure{
		{}, {Value: api.Value{Kind: api.Bool}}, {Value: api.Value{Kind: api.Bool, Ref: 1}}, {Value: num(1)}, {Value: num(2)}, {Value: api.Value{Kind: api.Number, Num: api.Num{P: 1, Q: 2}}},
		{Value: str("")}, {Value: str("1")}, {Value: str(long)}, {Value: str(long[1:] + "y")}, {Value: api.Value{Kind: api.String, Ref: 1}}, {Value: api.Value{Kind: api.Table, Ref: 1}}, {Value: api.Value{Kind: api.Data, Ref: 1}}, {Value: api.Value{Kind: -1}},
	}
	places := []api.Place{{}, host("f"), host("g"), script("f", 1), script("f", 2), script("f", -1), tail(host("f")), tail(script("f", 1))}
	for _, p := range places {
		list = append(list, api.Failure{Trace: []api.Place{p}}, api.Failure{Value: str("1"), Trace: []api.Place{p}})
		for _, q := range places {
			list = append(list, api.Failure{Trace: []api.Place{p, q}}, api.Failure{Trace: []api.Place{{}, p, q}})
		}
	}
	for i, a := range list {
		for j, b := range list {
			b.Trace = append(make([]api.Place, 0, 9), b.Trace...) // other memory; never nil
			if failure.Same(a, b) != (i == j) {
				t.Errorf("Same of the failures %d and %d: %v", i, j, i != j)
			}
		}
	}
	if a, b := numbered(100000), numbered(100000); !failure.Same(api.Failure{Trace: a}, api.Failure{Trace: b}) || failure.Same(api.Failure{Trace: a}, api.Failure{Trace: b[:99999]}) {
		t.Error("Same of long tracebacks")
	}
}

// messages returns the messages of the codes from OK on, as the chapter lists them, with VALUE for the type of the value.
func messages() []string {
	return []string{"", "nil object", "bad argument", "too many values", "malformed text", "unexpected end", "number out of range", "division by zero", "attempt to call a VALUE value",
		"unknown name", "declared twice", "attempt to assign to a constant", "label is not visible", "index is nil", "string too long", "chain of metatables too long", "cannot resume non-suspended coroutine", "stack overflow",
		"nothing is there", "cannot resume dead coroutine", "wrong checksum", "bytecode is not safe", "things do not match", "not enough memory", "too many steps", "attempt to yield from outside a coroutine", "error in a script"}
}

// TestDescribe covers P19.6 and P19.9: all codes, each with values of all kinds.
func TestDescribe(t *testing.T) {
	types := map[int]string{api.Nil: "nil", api.Bool: "boolean", api.Number: "number", api.String: "string", api.Table: "table", api.Function: "function", api.Builtin: "function", api.Thread: "thread", api.Data: "userdata"}
	for _, v := range append(others(), str(""), str("no"), str("VALUE")) {
		for e, want := range messages() {
			want = strings.Replace(want, "VALUE", types[v.Kind], 1)
			if s := failure.Describe(api.Errno(e), v); s != want {
				t.Errorf("Describe(%d, %v): %q; want %q", e, v, s, want)
			}
		}
		for _, e := range []int{math.MinInt, -1 << 32, -27, -8, -2, -1, 27, 28, 100, 1 << 32, 1<<32 + 8, math.MaxInt} {
			if s := failure.Describe(api.Errno(e), v); s != "unknown error" {
				t.Errorf("Describe(%d, %v): %q; want unknown error", e, v, s)
			}
		}
	}
	if s := failure.Describe(api.ErrType, api.Value{}); s != "attempt to call a nil value" {
		t.Errorf("the example: %q", s)
	}
}

// TestNewMemory checks that a failure has a traceback of its own, in both directions.
func TestNewMemory(t *testing.T) {
	for name, raise := range map[string]func(trace []api.Place) api.Failure{
		"Raise":   func(trace []api.Place) api.Failure { return failure.Raise(num(1), 0, trace) },
		"Message": func(trace []api.Place) api.Failure { return failure.Message("no", trace) },
	} {
		given := numbered(4)
		f, g := raise(given[:2]), raise(given[:2])
		f.Trace[0].Name = "changed"
		f.Trace = append(f.Trace, host("more"))
		if !slices.Equal(given, numbered(4)) || !slices.Equal(g.Trace, numbered(2)) {
			t.Errorf("%s: a change of a result is seen in %v and %v", name, given, g.Trace)
		}
		given[1].Line = 99
		if !slices.Equal(g.Trace, numbered(2)) {
			t.Errorf("%s: a change of an argument is seen in %v", name, g.Trace)
		}
	}
	lines := failure.Lines(api.Failure{Trace: numbered(2)})
	lines[0] = "changed"
	wantLines(t, numbered(2), "f:1", "f:2")
	failure.Lines(api.Failure{Trace: numbered(30)})[10] = "changed"
	if list := failure.Lines(api.Failure{Trace: numbered(30)}); list[10] != "..." {
		t.Errorf("a change of a result is seen in %q", list)
	}
}
