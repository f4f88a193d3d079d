package scope_test

import (
	"math"
	"slices"
	"strconv"
	"strings"
	"testing"

	"scripting/api"
	"scripting/scope"
	"scripting/tree"
)

// functions are the results for the functions of a chunk.
type functions struct {
	locals   [][]api.Local
	ups      [][]api.Up
	captured [][]int
}

// functionsOf returns the results for all functions of a chunk without an error.
func functionsOf(t *testing.T, b []api.Stat) functions {
	t.Helper()
	var f functions
	for fn := range tree.Funcs(b) {
		locals, e1 := scope.Locals(b, fn)
		ups, e2 := scope.Ups(b, fn)
		captured, e3 := scope.Captured(b, fn)
		if e1 != api.OK || e2 != api.OK || e3 != api.OK {
			t.Fatalf("function %d: errors %d, %d, %d", fn, int(e1), int(e2), int(e3))
		}
		f.locals, f.ups, f.captured = append(f.locals, locals), append(f.ups, ups), append(f.captured, captured)
	}
	return f
}

// parents returns the number of the enclosing function for each function of a chunk.
func parents(b []api.Stat) []int {
	list := tree.Funcs(b)
	outer := make([]int, len(list))
	for fn, f := range list {
		// Functions further inside come later, and replace the number.
		for i := range tree.Funcs(f.Body)[1:] {
			outer[fn+1+i] = fn
		}
	}
	return outer
}

// TestLawsByChance covers P8.7, P8.8 and P8.9.
func TestLawsByChance(t *testing.T) {
	c, count := chance(2), 0
	for range 6000 {
		text := author{chance: &c, vararg: true}.block(1 + c.below(5))
		text = strings.NewReplacer("goto", "--", "::", "--::").Replace(text)
		b := read(t, text)
		uses, e := scope.Uses(b)
		if e != api.OK {
			continue
		}
		count++
		f := functionsOf(t, b)
		usesLaw(t, text, uses, f)
		capturedLaw(t, text, parents(b), f)
		namesLaw(t, text, b, uses)
	}
	if count < 2000 {
		t.Errorf("only %d chunks have no error", count)
	}
}

// usesLaw is P8.7.
func usesLaw(t *testing.T, text string, uses []api.Use, f functions) {
	t.Helper()
	for _, u := range uses {
		var names []string
		switch u.Kind {
		case api.UseLocal:
			for _, x := range f.locals[u.Func] {
				names = append(names, x.Name)
			}
		case api.UseUp:
			for _, x := range f.ups[u.Func] {
				names = append(names, x.Name)
			}
		case api.UseGlobal:
			names = []string{u.Name}
		}
		if u.Index < 0 || u.Index >= len(names) || names[u.Index] != u.Name {
			t.Fatalf("the use %s has the names %v in%s", useText(u), names, text)
		}
	}
}

// capturedLaw is P8.8.
func capturedLaw(t *testing.T, text string, outer []int, f functions) {
	t.Helper()
	want := make([][]int, len(outer))
	for fn, ups := range f.ups {
		for _, u := range ups {
			if u.Local {
				want[outer[fn]] = append(want[outer[fn]], u.Index)
			}
		}
	}
	for fn, l := range want {
		slices.Sort(l)
		if l = slices.Compact(l); !slices.Equal(l, f.captured[fn]) {
			t.Fatalf("function %d captures %v, want %v, in%s", fn, f.captured[fn], l, text)
		}
	}
}

// namesLaw is P8.9.
func namesLaw(t *testing.T, text string, b []api.Stat, uses []api.Use) {
	t.Helper()
	for e := range tree.Each(b) {
		if e.Kind != api.EName {
			continue
		}
		if len(uses) == 0 || uses[0].Name != e.Str || uses[0].Line != e.Line {
			t.Fatalf("the name %s in the line %d is not the next use in%s", e.Str, e.Line, text)
		}
		uses = uses[1:]
	}
	if len(uses) > 0 {
		t.Fatalf("%d uses more than names in%s", len(uses), text)
	}
}

// TestLargeChunks has as many labels, jumps, functions and uses as a chunk can have.
func TestLargeChunks(t *testing.T) {
	many := func(n int, part func(i string) string) string {
		var s strings.Builder
		for i := range n {
			s.WriteString(part(strconv.Itoa(i)))
		}
		return s.String()
	}
	nested := strings.Repeat("do ", 60) + "%" + strings.Repeat(" end", 60)
	for _, x := range []struct {
		text string
		kind string
		size int
	}{
		{many(6000, func(i string) string { return "::a" + i + "::" }), "labels", 6000},
		{many(2500, func(i string) string { return "goto a" + i + " " }) + many(2500, func(i string) string { return "::a" + i + "::" }), "jumps", 5000},
		{strings.ReplaceAll(nested, "%", many(2500, func(i string) string { return "goto a" + i + " " })) + many(2500, func(i string) string { return "::a" + i + "::" }), "jumps inside", 5060},
		{"local a " + strings.Repeat("a=a ", 16000), "uses", 3*16000 + 1},
		{"local a " + strings.Repeat("f(function() a = 1 end) ", 2700), "functions", 7*2700 + 1},
		{"local a " + strings.Repeat("return function() ", 31) + "a=a" + strings.Repeat(" end", 31), "functions inside", 0},
	} {
		b := read(t, x.text)
		if x.size > 0 && tree.Size(b) != x.size {
			t.Errorf("%s: size %d", x.kind, tree.Size(b))
		}
		if line, e := scope.Check(b); line != 0 || e != api.OK {
			t.Errorf("%s: line %d, error %d", x.kind, line, int(e))
		}
	}
}

// TestLargestChunk has a chunk of MaxNodes statements: it is accepted, or has its error in the last line.
func TestLargestChunk(t *testing.T) {
	b := make([]api.Stat, api.MaxNodes)
	for i := range b {
		b[i] = api.Stat{Kind: api.SLabel, Label: "a" + strconv.Itoa(i), Line: i}
	}
	if line, e := scope.Check(b); line != 0 || e != api.OK {
		t.Errorf("line %d, error %d", line, int(e))
	}
	last := &b[api.MaxNodes-1]
	last.Label, last.Line = "a0", math.MaxInt
	if line, e := scope.Check(b); line != math.MaxInt || e != api.ErrTwice {
		t.Errorf("line %d, error %d", line, int(e))
	}
}
