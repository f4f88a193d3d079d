package scope_test

import (
	"slices"
	"testing"

	"scripting/api"
	"scripting/parser"
	"scripting/scope"
)

// read returns the chunk of a text.
func read(t *testing.T, s string) []api.Stat {
	t.Helper()
	b, line, e := parser.Chunk(s)
	if e != api.OK {
		t.Fatalf("Chunk(%s): line %d, error %d", s, line, int(e))
	}
	return b
}

// agrees compares the results for a chunk with what is wanted, and returns the result of Check.
func agrees(t *testing.T, what string, b []api.Stat) api.Errno {
	t.Helper()
	v := surveyed(b)
	wantLine, want := v.wantCheck()
	if line, e := scope.Check(b); line != wantLine || e != want {
		t.Fatalf("Check: line %d, error %d; want line %d, error %d of%s", line, int(e), wantLine, int(want), what)
	}
	if want != api.OK {
		wantFailure(t, b, 0, want)
		return want
	}
	wantEqual(t, what, "Uses", v.wantUses(), func() ([]api.Use, api.Errno) { return scope.Uses(b) })
	wantEqual(t, what, "Jumps", v.wantJumps(), func() ([]scope.Jump, api.Errno) { return scope.Jumps(b) })
	for fn := range v.parents {
		wantEqual(t, what, "Ups", v.wantUps(fn), func() ([]api.Up, api.Errno) { return scope.Ups(b, fn) })
		wantEqual(t, what, "Locals", v.wantLocals(fn), func() ([]api.Local, api.Errno) { return scope.Locals(b, fn) })
		wantEqual(t, what, "Captured", v.wantCaptured(fn), func() ([]int, api.Errno) { return scope.Captured(b, fn) })
	}
	return want
}

// wantEqual compares a list with what a function returns.
func wantEqual[T comparable](t *testing.T, what, function string, want []T, got func() ([]T, api.Errno)) {
	t.Helper()
	if l, e := got(); e != api.OK || !slices.Equal(l, want) {
		t.Fatalf("%s: %v, error %d; want %v of %s", function, l, int(e), want, what)
	}
}

// wantFailure checks that all functions but Check return an error and nothing else.
func wantFailure(t *testing.T, b []api.Stat, fn int, want api.Errno) {
	t.Helper()
	if l, e := scope.Uses(b); len(l) != 0 || e != want {
		t.Errorf("Uses: %v, error %d; want error %d", l, int(e), int(want))
	}
	if l, e := scope.Jumps(b); len(l) != 0 || e != want {
		t.Errorf("Jumps: %v, error %d; want error %d", l, int(e), int(want))
	}
	wantNoFunction(t, b, fn, want)
}

// wantNoFunction checks that the functions that are given the number of a function return an error and nothing else.
func wantNoFunction(t *testing.T, b []api.Stat, fn int, want api.Errno) {
	t.Helper()
	if l, e := scope.Ups(b, fn); len(l) != 0 || e != want {
		t.Errorf("Ups: %v, error %d; want error %d", l, int(e), int(want))
	}
	if l, e := scope.Locals(b, fn); len(l) != 0 || e != want {
		t.Errorf("Locals: %v, error %d; want error %d", l, int(e), int(want))
	}
	if l, e := scope.Captured(b, fn); len(l) != 0 || e != want {
		t.Errorf("Captured: %v, error %d; want error %d", l, int(e), int(want))
	}
}

// checks checks the line and the error of a text.
func checks(t *testing.T, s string, wantLine int, want api.Errno) {
	t.Helper()
	if line, e := scope.Check(read(t, s)); line != wantLine || e != want {
		t.Errorf("Check(%.200q): line %d, error %d; want line %d, error %d", s, line, int(e), wantLine, int(want))
	}
}

// accepts checks that a text has no error.
func accepts(t *testing.T, s string) {
	t.Helper()
	checks(t, s, 0, api.OK)
}
