package failure_test

import (
	"fmt"
	"math"
	"slices"
	"strings"
	"testing"

	"scripting/api"
	"scripting/failure"
)

// traces returns all tracebacks of at most so many places, out of some that differ in their lines.
func traces(most int) [][]api.Place {
	list := [][]api.Place{nil}
	for i := 0; len(list[i]) < most; i++ {
		for _, p := range []api.Place{host("h"), script("f", 1), tail(script("", 203)), script("g", -1), tail(script("g", math.MaxInt))} {
			list = append(list, append(slices.Clone(list[i]), p))
		}
	}
	return list
}

// levels returns levels in and out of the range of short tracebacks.
func levels() []int {
	return []int{math.MinInt, -1 << 32, -1, 0, 1, 2, 3, 4, 5, 6, 1<<32 + 1, math.MaxInt}
}

// strs returns strings, some of which have no room for some positions, or are too long themselves.
func strs() []api.Value {
	list := []api.Value{str(""), str("no"), {Kind: api.String, Str: "x", Ref: 2}}
	for _, n := range []int{api.MaxString - 22, api.MaxString - 21, api.MaxString - 20, api.MaxString - 5, api.MaxString - 4, api.MaxString - 3, api.MaxString - 2, api.MaxString, api.MaxString + 1} {
		list = append(list, str(strings.Repeat("x", n)))
	}
	return list
}

// wantValue returns the value of Raise as P19.1 defines it: the places that have a line are listed first.
func wantValue(v api.Value, level int, trace []api.Place) api.Value {
	var lines []int
	for _, p := range trace {
		if p.Line > 0 {
			lines = append(lines, p.Line)
		}
	}
	if v.Kind != api.String || level < 1 || level > len(lines) {
		return v
	}
	if s := fmt.Sprintf("%d: %s", lines[level-1], v.Str); len(s) <= api.MaxString {
		v.Str = s
	}
	return v
}

// TestRaiseOfAll covers P19.1 and P19.7 for all short tracebacks.
func TestRaiseOfAll(t *testing.T) {
	values := append(others(), strs()...)
	for _, trace := range traces(4) {
		for _, level := range levels() {
			for _, v := range values {
				wantRaise(t, v, level, trace, wantValue(v, level, trace))
				f := failure.Raise(v, level, trace)
				rest := f.Value
				rest.Str = v.Str
				if rest != v || !strings.HasSuffix(f.Value.Str, v.Str) {
					t.Errorf("Raise(%v, %d, %v) does not end with its value", brief(v), level, trace)
				}
				if f.Value != v && (level < 1 || v.Kind != api.String) {
					t.Errorf("Raise(%v, %d, %v) changes its value", brief(v), level, trace)
				}
			}
		}
		if t.Failed() {
			return
		}
	}
}

// TestMessageIsRaise covers P19.2 for all short tracebacks: Message is Raise of a string with the level 1.
func TestMessageIsRaise(t *testing.T) {
	for _, trace := range traces(3) {
		for _, v := range strs() {
			cut := str(v.Str[:min(len(v.Str), api.MaxString)])
			wantMessage(t, v.Str, trace, wantValue(cut, 1, trace).Str)
			if a, b := failure.Message(v.Str, trace), failure.Raise(cut, 1, trace); !failure.Same(a, b) {
				t.Errorf("Message(%.20q, %v): %v with %v; want %v with %v", v.Str, trace, brief(a.Value), a.Trace, brief(b.Value), b.Trace)
			}
		}
	}
}

// wantLine returns the line of a place as P19.4 defines it.
func wantLine(p api.Place) string {
	s := p.Name
	if p.Line > 0 {
		s += fmt.Sprintf(":%d", p.Line)
	}
	return s + map[bool]string{true: " (tail call)"}[p.Tail]
}

// TestLinesOfAll covers P19.4 and P19.8 for all short tracebacks, and for each of these as the beginning, the middle
// and the end of longer ones.
func TestLinesOfAll(t *testing.T) {
	var whole []api.Place
	for _, trace := range traces(3) {
		whole = append(whole, trace...)
	}
	for from := range 40 {
		for n := range 60 {
			wantAllLines(t, whole[from:from+n])
		}
	}
	for _, trace := range traces(4) {
		wantAllLines(t, trace)
	}
	wantAllLines(t, whole)
}

// wantAllLines checks the lines of a traceback.
func wantAllLines(t *testing.T, trace []api.Place) {
	t.Helper()
	var want []string
	for _, p := range trace {
		want = append(want, wantLine(p))
	}
	if len(trace) > 21 {
		want = slices.Replace(want, 10, len(want)-11, "...")
	}
	wantLines(t, trace, want...)
	if n := len(failure.Lines(api.Failure{Trace: trace})); n > 22 || n > len(trace) {
		t.Errorf("%d lines for %d places", n, len(trace))
	}
}

// TestSameOfAll covers P19.5 for all pairs of short tracebacks.
func TestSameOfAll(t *testing.T) {
	list := traces(3)
	for i, a := range list {
		for j, b := range list {
			if same := failure.Same(api.Failure{Value: num(1), Trace: a}, api.Failure{Value: num(1), Trace: b}); same != (i == j) {
				t.Fatalf("Same of %v and %v: %v", a, b, same)
			}
		}
		if failure.Same(api.Failure{Value: num(1), Trace: a}, api.Failure{Value: num(2), Trace: a}) {
			t.Fatalf("Same of two values with %v", a)
		}
	}
}
