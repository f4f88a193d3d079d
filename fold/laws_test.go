package fold_test

import (
	"slices"
	"strings"
	"testing"

	"scripting/api"
	"scripting/fold"
	"scripting/parser"
	"scripting/tree"
)

// agreesExpr compares the results for an expression with the definitions (P10.1, P10.2), and checks P10.4, P10.5 and
// P10.7, and that the expression is not changed. It reports whether folding changes anything.
func agreesExpr(t *testing.T, e api.Expr) bool {
	t.Helper()
	before := wantCopy(e)
	value, isConstant := wantConstant(e)
	got := fold.Expr(e)
	if want := wantExpr(e); !tree.SameExpr(got, want) {
		t.Fatalf("Expr: %+v; want %+v of %+v", got, want, e)
	}
	for _, x := range []api.Expr{e, got} {
		if v, ok := fold.Constant(x); v != value || ok != isConstant {
			t.Fatalf("Constant: %+v, %t; want %+v, %t of %+v", v, ok, value, isConstant, x)
		}
	}
	if again := fold.Expr(got); !tree.SameExpr(again, got) {
		t.Fatalf("Expr again: %+v of %+v", again, got)
	}
	if tree.Multi(got) != tree.Multi(e) {
		t.Fatalf("%+v has several values, and %+v has not, or the other way round", got, e)
	}
	if !tree.SameExpr(e, before) {
		t.Fatalf("%+v is changed to %+v", before, e)
	}
	return !tree.SameExpr(got, e)
}

// wantCopy returns an expression that shares no memory with another one.
func wantCopy(e api.Expr) api.Expr {
	return slices.Collect(tree.Each([]api.Stat{{Right: []api.Expr{e}}}))[0]
}

// agreesChunk compares a chunk folded with the definition (P10.3), and checks P10.5 and P10.9. It reports whether
// folding changes anything.
func agreesChunk(t *testing.T, b []api.Stat) bool {
	t.Helper()
	before := tree.Funcs(b)[0].Body
	got := fold.Chunk(b)
	if want := wantChunk(b); !tree.Same(got, want) {
		t.Fatalf("Chunk: %+v; want %+v of %+v", got, want, b)
	}
	if again := fold.Chunk(got); !tree.Same(again, got) {
		t.Fatalf("Chunk again: %+v of %+v", again, got)
	}
	if l, want := mentions(got), mentions(b); !slices.Equal(l, want) {
		t.Fatalf("the names are %v; want %v of %+v", l, want, b)
	}
	if !tree.Same(b, before) {
		t.Fatalf("%+v is changed to %+v", before, b)
	}
	return !tree.Same(got, b)
}

// use is a variable that is mentioned in a line.
type use struct {
	name string
	line int
}

// mentions returns the variables that a chunk mentions, in the order of the text.
func mentions(b []api.Stat) []use {
	var l []use
	for e := range tree.Each(b) {
		if e.Kind == api.EName {
			l = append(l, use{e.Str, e.Line})
		}
	}
	return l
}

// accepted checks P10.6 for a chunk that Check accepts.
func accepted(t *testing.T, b []api.Stat) {
	t.Helper()
	got := fold.Chunk(b)
	if e := tree.Check(got); e != api.OK {
		t.Fatalf("Check of the result: error %d of %+v", int(e), b)
	}
	if tree.Size(got) > tree.Size(b) || tree.Depth(got) > tree.Depth(b) {
		t.Fatalf("the size is %d and the depth is %d; they were %d and %d of %+v", tree.Size(got), tree.Depth(got), tree.Size(b), tree.Depth(b), b)
	}
}

// TestWildTreesByChance covers P10.1 to P10.5 and P10.9 for trees that need not be well-formed.
func TestWildTreesByChance(t *testing.T) {
	c := &chance{3}
	changed, constants := 0, 0
	for range 60000 {
		e := c.wildExpr(c.below(6))
		if agreesExpr(t, e) {
			changed++
		}
		if _, ok := fold.Constant(e); ok {
			constants++
		}
	}
	for range 8000 {
		agreesChunk(t, c.wildBlock(4))
	}
	if changed < 10000 || constants < 10000 {
		t.Errorf("only %d expressions are changed, and %d are constants", changed, constants)
	}
}

// TestTextsByChance covers P10.1 to P10.7 and P10.9 for chunks that are read from a text.
func TestTextsByChance(t *testing.T) {
	c := &chance{8}
	changed := 0
	for range 1500 {
		text := c.block(4, 4)
		b, line, e := parser.Chunk(text)
		if e != api.OK {
			t.Fatalf("Chunk(%s): line %d, error %d", text, line, int(e))
		}
		if agreesChunk(t, b) {
			changed++
		}
		accepted(t, b)
		for x := range tree.Each(b) {
			agreesExpr(t, x)
		}
	}
	if changed < 700 {
		t.Errorf("only %d chunks are changed", changed)
	}
}

// operands are the texts of constants and of other expressions.
func operands() []string {
	return []string{
		"nil", "true", "false", "0", "1", "2", "5", "31", "64", "0.5", "0.3", "2147483647", "'a'", "'b'", "''", "'10'", "(-1)", "(1 / 3)", "(-1 / 3)", "(2 / 7)", "(not nil)", "('a' .. 1)", "(1 / 0)", "x", "f()", "...", "{}", "function() end", "function() return x end",
	}
}

// TestAllPairsOfOperands covers P10.1 to P10.7 for all operators and pairs of operands.
func TestAllPairsOfOperands(t *testing.T) {
	binary := operators()[:21]
	for _, l := range operands() {
		for _, r := range operands() {
			for _, op := range binary {
				e := readExpr(t, "("+l+")\n"+op+" "+r)
				agreesExpr(t, e)
				accepted(t, []api.Stat{{Kind: api.SReturn, Right: []api.Expr{e}}})
			}
		}
		for _, op := range []string{"not", "-", "#", "~"} {
			agreesExpr(t, readExpr(t, op+"\n"+l))
			for _, other := range []string{"not", "-", "#", "~"} {
				e := readExpr(t, op+"\n"+other+" "+l)
				agreesExpr(t, e)
				accepted(t, []api.Stat{{Kind: api.SReturn, Right: []api.Expr{e}}})
			}
		}
	}
}

// TestExpressionsWithoutConstants covers the first half of P10.7.
func TestExpressionsWithoutConstants(t *testing.T) {
	for _, s := range []string{
		"x + y * z", "-x ^ -y", "x and y or z", "f(x, y)", "x.y", "{x, [y] = z}", "(f())", "not x == y", "function(a) return a, x .. y end", "x and (f())", "#x ~ ~y", "x and 1", "f(1)", "x + 1", "1 + x", "nil and x", "1 or x", "x or 1", "{1, 'a', k = nil}", "x.y.z[1]",
	} {
		if e := readExpr(t, s); agreesExpr(t, e) {
			t.Errorf("%s is changed to %+v", s, fold.Expr(e))
		}
	}
}

// TestLongStrings covers the limit of strings, in and below the result.
func TestLongStrings(t *testing.T) {
	for _, n := range []int{0, 1, api.MaxString / 2, api.MaxString - 1, api.MaxString, api.MaxString + 1} {
		part := api.Expr{Kind: api.EString, Str: strings.Repeat("x", n)}
		for _, m := range []int{0, 1, api.MaxString - n, api.MaxString - n + 1, api.MaxString} {
			if m < 0 {
				continue
			}
			other := api.Expr{Kind: api.EString, Str: strings.Repeat("y", m)}
			e := api.Expr{Kind: api.EBinary, Op: api.OpConcat, Args: []api.Expr{part, other}}
			want := n <= api.MaxString && n+m <= api.MaxString
			if v, ok := fold.Constant(e); ok != want || ok && v != str(part.Str+other.Str) || !ok && v != (api.Value{}) {
				t.Errorf("%d and %d bytes joined: %t, %d bytes", n, m, ok, len(v.Str))
			}
			agreesExpr(t, e)
		}
	}
}

// nested returns an expression of so many levels.
func nested(levels int, leaf api.Expr, around func(api.Expr) api.Expr) api.Expr {
	for range levels {
		leaf = around(leaf)
	}
	return leaf
}

// TestDeepTrees covers trees that are as deep as the document permits: they take time that grows with their size only.
func TestDeepTrees(t *testing.T) {
	const levels = 1<<16 - 8
	one, name := leafOf(num(1, 1)), api.Expr{Kind: api.EName, Str: "x"}
	not := func(e api.Expr) api.Expr {
		return api.Expr{Kind: api.EUnary, Op: api.OpNot, Line: 1, Args: []api.Expr{e}}
	}
	and := func(e api.Expr) api.Expr { return api.Expr{Kind: api.EAnd, Line: 1, Args: []api.Expr{one, e}} }
	after := func(e api.Expr) api.Expr {
		return api.Expr{Kind: api.EOr, Line: 1, Args: []api.Expr{{Kind: api.EBinary, Op: api.OpEq, Args: []api.Expr{e, {Kind: api.ENil}}}, one}}
	}
	if e := fold.Expr(nested(levels, one, not)); e.Kind != api.ETrue || e.Line != 1 {
		t.Errorf("not: %+v", e)
	}
	if e := fold.Expr(nested(levels, name, and)); !tree.SameExpr(e, name) {
		t.Errorf("and: %+v", e)
	}
	if v, ok := fold.Constant(nested(levels, name, not)); ok || v != (api.Value{}) {
		t.Errorf("not x: %v, %t", v, ok)
	}
	if v, ok := fold.Constant(nested(levels/2, one, after)); !ok || v != num(1, 1) {
		t.Errorf("or: %v, %t", v, ok)
	}
	function := func(e api.Expr) api.Expr {
		return api.Expr{Kind: api.EFunc, Funcs: []api.Func{{Body: []api.Stat{{Kind: api.SReturn, Right: []api.Expr{e}}}}}}
	}
	short := api.Expr{Kind: api.EAnd, Args: []api.Expr{{Kind: api.EFalse}, nested(levels/2, one, function)}}
	if v, ok := fold.Constant(short); !ok || v != boolean(0) {
		t.Errorf("false and a function: %v, %t", v, ok)
	}
	short.Args[1] = nested(levels/2, name, function)
	if v, ok := fold.Constant(short); ok || v != (api.Value{}) {
		t.Errorf("false and a function with a variable: %v, %t", v, ok)
	}
	b := []api.Stat{{Kind: api.SReturn, Right: []api.Expr{{Kind: api.EUnary, Op: api.OpNot, Args: []api.Expr{one}}}}}
	for range levels {
		b = []api.Stat{{Kind: api.SDo, Blocks: [][]api.Stat{b}}}
	}
	b = fold.Chunk(b)
	for len(b[0].Blocks) > 0 {
		b = b[0].Blocks[0]
	}
	if b[0].Kind != api.SReturn || b[0].Right[0].Kind != api.EFalse {
		t.Errorf("blocks: %+v", b)
	}
}

// TestWideTrees covers lists that are long.
func TestWideTrees(t *testing.T) {
	const many = 1 << 18
	item := api.Expr{Kind: api.EItem, Args: []api.Expr{{Kind: api.EBinary, Op: api.OpAdd, Args: []api.Expr{leafOf(num(1, 1)), leafOf(num(2, 1))}}}}
	e := api.Expr{Kind: api.ETable, Args: slices.Repeat([]api.Expr{item}, many)}
	got := fold.Expr(e)
	if len(got.Args) != many {
		t.Fatalf("%d items", len(got.Args))
	}
	for i, x := range got.Args {
		if x.Kind != api.EItem || x.Args[0].Num != (api.Num{P: 3, Q: 1}) {
			t.Fatalf("item %d: %+v", i, x)
		}
	}
}

// spoil changes all lists of an expression and of its parts.
func spoil(e *api.Expr) {
	for i := range e.Args {
		spoil(&e.Args[i])
		e.Args[i] = api.Expr{Kind: 99}
	}
	for i := range e.Funcs {
		spoilBlock(e.Funcs[i].Body)
		clear(e.Funcs[i].Params)
		e.Funcs[i] = api.Func{Name: "spoilt"}
	}
}

// spoilBlock changes all lists of a block and of its parts.
func spoilBlock(b []api.Stat) {
	for i := range b {
		for _, l := range [][]api.Expr{b[i].Left, b[i].Right} {
			for k := range l {
				spoil(&l[k])
				l[k] = api.Expr{Kind: 99}
			}
		}
		for _, inner := range b[i].Blocks {
			spoilBlock(inner)
		}
		clear(b[i].Blocks)
		clear(b[i].Names)
		b[i] = api.Stat{Kind: 99}
	}
}

// TestResultsAreNewMemory covers Rule 4: a change of the result is not seen in the argument.
func TestResultsAreNewMemory(t *testing.T) {
	c := &chance{21}
	for range 3000 {
		b := c.wildBlock(5)
		before := tree.Funcs(b)[0].Body
		spoilBlock(fold.Chunk(b))
		if !tree.Same(b, before) {
			t.Fatalf("the result of %+v shares memory with it", before)
		}
		e := c.wildExpr(5)
		copied := wantCopy(e)
		got := fold.Expr(e)
		spoil(&got)
		if !tree.SameExpr(e, copied) {
			t.Fatalf("the result of %+v shares memory with it", copied)
		}
	}
}
