package tree_test

import (
	"slices"
	"strings"
	"testing"

	"scripting/api"
	"scripting/tree"
)

// statements returns the number of statements in a block and in all blocks that it contains.
func statements(b []api.Stat) int {
	n := 0
	l, _ := survey(b)
	for _, x := range l {
		if x.stat != nil {
			n++
		}
	}
	return n
}

// expressions returns the number of expressions that Each yields.
func expressions(b []api.Stat) int {
	n := 0
	for range tree.Each(b) {
		n++
	}
	return n
}

// TestSizeLaw covers P5.8.
func TestSizeLaw(t *testing.T) {
	variants(func(b []api.Stat) {
		if size, sum := tree.Size(b), expressions(b)+statements(b); size != sum {
			t.Fatalf("Size(%.2000s): %d, want %d", text(b), size, sum)
		}
	})
}

// TestNumbersLaw covers P5.9: the functions in the body of a function follow it in the list of all functions, so
// that the next number is as much greater as there are functions; and what a body has is part of the chunk.
func TestNumbersLaw(t *testing.T) {
	variants(func(b []api.Stat) {
		all, exprs := tree.Funcs(b), slices.Collect(tree.Each(b))
		for k, f := range all {
			inner := tree.Funcs(f.Body)[1:]
			if k+1+len(inner) > len(all) || !slices.EqualFunc(inner, all[k+1:k+1+len(inner)], equalFuncs) {
				t.Fatalf("the functions in the function %d of %.2000s are %v", k, text(b), inner)
			}
			if !strings.Contains(exprTexts(exprs), exprTexts(slices.Collect(tree.Each(f.Body)))) {
				t.Fatalf("the function %d of %.2000s has other expressions", k, text(b))
			}
		}
		if own := ownExpressions(all); own != len(exprs) {
			t.Fatalf("the functions of %.2000s have %d expressions of their own, of %d", text(b), own, len(exprs))
		}
	})
}

// exprTexts returns the texts of expressions, one after the other.
func exprTexts(l []api.Expr) string {
	w := &strings.Builder{}
	writeExprs(w, "", l)
	return w.String()
}

// ownExpressions returns the sum of the numbers of expressions of functions, without those of the functions in them.
func ownExpressions(all []api.Func) int {
	sum := 0
	for k, f := range all {
		sum += expressions(f.Body)
		for next := k + 1; next < k+len(tree.Funcs(f.Body)); next += len(tree.Funcs(all[next].Body)) {
			sum -= expressions(all[next].Body)
		}
	}
	return sum
}

// TestAcceptedLaw covers P5.10.
func TestAcceptedLaw(t *testing.T) {
	accepted := 0
	variants(func(b []api.Stat) {
		if tree.Check(b) != api.OK {
			return
		}
		accepted++
		for _, f := range tree.Funcs(b) {
			if e := tree.Check(f.Body); e != api.OK {
				t.Fatalf("Check of a body of %.2000s: %d", text(b), int(e))
			}
		}
		for x := range tree.Each(b) {
			want := api.OK
			if x.Kind == api.EItem || x.Kind == api.EPair || x.Kind == api.EFunc && x.Funcs[0].Name != "" {
				want = api.ErrForm
			}
			if e := tree.Expr(x); e != want {
				t.Fatalf("Expr(%v) in %.2000s: %d, want %d", x, text(b), int(e), int(want))
			}
		}
	})
	if accepted < 100 {
		t.Errorf("only %d chunks are accepted", accepted)
	}
}

// deep returns a chunk of n blocks with functions, each of which is in the one before.
func deep(n int) []api.Stat {
	b := block()
	for range n {
		b = block(do(result(fn("", nil, b...))))
	}
	return b
}

// TestDeepTrees gives all functions trees that are as deep as the document promises.
func TestDeepTrees(t *testing.T) {
	const parts, functions = 1<<16 - 1, 1<<16/3 - 1
	for _, c := range []struct {
		what               string
		b                  []api.Stat
		depth, size, funcs int
	}{
		{"operators", chain(parts), parts, parts, 1},
		{"blocks and functions", deep(functions), 3*functions + 1, 3 * functions, functions + 1},
	} {
		if size, depth := tree.Size(c.b), tree.Depth(c.b); size != c.size || depth != c.depth {
			t.Errorf("%s: size %d, depth %d; want %d, %d", c.what, size, depth, c.size, c.depth)
		}
		checks(t, c.what, c.b, api.ErrLimit)
		if got := expressions(c.b) + statements(c.b); got != c.size {
			t.Errorf("%s: %d statements and expressions", c.what, got)
		}
		if l := tree.Funcs(c.b); len(l) != c.funcs || !tree.Same(l[0].Body, c.b) {
			t.Errorf("%s: %d functions", c.what, len(l))
		}
		other := cloneBlock(c.b)
		if !tree.Same(c.b, other) {
			t.Errorf("%s: a copy is not the same", c.what)
		}
		l, _ := survey(other)
		for _, x := range l[len(l)-2:] {
			onExpr(func(e *api.Expr) { e.Line++ })(x)
		}
		if tree.Same(c.b, other) {
			t.Errorf("%s: a change is not seen", c.what)
		}
	}
	if e := tree.Expr(chain(parts)[0].Right[0]); e != api.ErrLimit {
		t.Errorf("Expr of a deep expression: %d", int(e))
	}
}

// TestLargeTrees gives all functions a chunk of as many statements and expressions as Check accepts, and more.
func TestLargeTrees(t *testing.T) {
	for _, n := range []int{api.MaxNodes, 4 * api.MaxNodes} {
		b := wide(n)
		if size, depth := tree.Size(b), tree.Depth(b); size != n || depth != 2 {
			t.Errorf("size %d, depth %d; want %d, 2", size, depth, n)
		}
		if got := expressions(b); got != n-1 {
			t.Errorf("%d expressions of %d", got, n-1)
		}
	}
}
