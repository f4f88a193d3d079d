package tree_test

import (
	"fmt"
	"math"
	"strings"
	"testing"

	"scripting/api"
	"scripting/tree"
)

// change changes what is at an index of the survey of a chunk. It changes nothing if that has another type.
type change func(x seen)

// onStat, onExpr and onFunc return changes of a statement, of an expression and of a function.
func onStat(set func(s *api.Stat)) change {
	return func(x seen) {
		if x.stat != nil {
			set(x.stat)
		}
	}
}

func onExpr(set func(e *api.Expr)) change {
	return func(x seen) {
		if x.expr != nil {
			set(x.expr)
		}
	}
}

func onFunc(set func(f *api.Func)) change {
	return func(x seen) {
		if x.fn != nil {
			set(x.fn)
		}
	}
}

// texts returns strings that are names, keywords, too long, or nothing of this.
func texts() []string {
	return append(words("x self end f a.b.c a.b:c 1 é _0 g main"), "", "a b", long(40), long(41), long(4096), long(4097))
}

// integers returns values of a field that is an integer.
func integers() []int { return []int{math.MinInt, -1, 0, 1, 2, 3, 1 << 40, math.MaxInt} }

// less returns a list without its last element.
func less[T any](l []T) []T { return l[:max(0, len(l)-1)] }

// changes returns changes of all fields.
func changes() []change {
	var l []change
	for _, n := range integers() {
		l = append(l, onStat(func(s *api.Stat) { s.Line = n }), onExpr(func(e *api.Expr) { e.Line = n }),
			onFunc(func(f *api.Func) { f.Line = n }), onExpr(func(e *api.Expr) { e.Num.P = n }), onExpr(func(e *api.Expr) { e.Num.Q = n }),
			onStat(func(s *api.Stat) {
				for i := range s.Names {
					s.Names[i].Attr = n
				}
			}))
	}
	for kind := -1; kind <= api.OpBnot+1; kind++ {
		l = append(l, onStat(func(s *api.Stat) { s.Kind = kind }), onExpr(func(e *api.Expr) { e.Kind = kind }),
			onExpr(func(e *api.Expr) { e.Op = kind }), onStat(func(s *api.Stat) { s.Right = append(s.Right, leaf(kind)) }),
			onExpr(func(e *api.Expr) { e.Args = append(e.Args, leaf(kind)) }),
			onExpr(func(e *api.Expr) {
				if len(e.Args) > 0 {
					e.Args[0] = leaf(kind)
				}
			}))
	}
	for _, s := range texts() {
		l = append(l, textChanges(s)...)
	}
	for _, e := range []api.Expr{name("a"), dots(), fn("", nil), fn("f", nil), fn("a.b:c", words("self")), field(name("a"), "b"), item(num(1, 1)), pair(name("a"), dots()), call(name("f"))} {
		l = append(l, exprChanges(e)...)
	}
	return append(l, listChanges()...)
}

// exprChanges returns changes that put a copy of an expression somewhere.
func exprChanges(e api.Expr) []change {
	fresh := func() api.Expr { return cloneExpr(e) }
	return []change{
		onStat(func(s *api.Stat) { s.Left = append(s.Left, fresh()) }), onStat(func(s *api.Stat) { s.Right = append(s.Right, fresh()) }),
		onStat(func(s *api.Stat) { s.Left = list(fresh()) }), onStat(func(s *api.Stat) { s.Right = list(fresh()) }),
		onExpr(func(x *api.Expr) { x.Args = append(x.Args, fresh()) }), onExpr(func(x *api.Expr) { x.Args = list(fresh()) }),
		onExpr(func(x *api.Expr) { *x = fresh() }),
	}
}

// textChanges returns changes that use a string.
func textChanges(text string) []change {
	return []change{
		onStat(func(s *api.Stat) { s.Label = text }), onExpr(func(e *api.Expr) { e.Str = text }), onFunc(func(f *api.Func) { f.Name = text }),
		onStat(func(s *api.Stat) { s.Names = append(s.Names, api.Local{Name: text}) }),
		onStat(func(s *api.Stat) {
			if len(s.Names) > 0 {
				s.Names[0].Name = text
			}
		}),
		onFunc(func(f *api.Func) { f.Params = append(f.Params, text) }),
		onFunc(func(f *api.Func) { f.Params = []string{text} }),
	}
}

// listChanges returns changes of the lengths of lists, and of whole elements.
func listChanges() []change {
	return []change{
		onStat(func(s *api.Stat) { s.Names = less(s.Names) }), onStat(func(s *api.Stat) { s.Left = less(s.Left) }),
		onStat(func(s *api.Stat) { s.Right = less(s.Right) }), onStat(func(s *api.Stat) { s.Blocks = less(s.Blocks) }),
		onExpr(func(e *api.Expr) { e.Args = less(e.Args) }), onExpr(func(e *api.Expr) { e.Funcs = less(e.Funcs) }),
		onFunc(func(f *api.Func) { f.Params = less(f.Params) }), onFunc(func(f *api.Func) { f.Vararg = !f.Vararg }),
		onFunc(func(f *api.Func) { f.Body = append(f.Body, leave()) }), onFunc(func(f *api.Func) { f.Body = less(f.Body) }),
		onStat(func(s *api.Stat) { s.Blocks = append(s.Blocks, block(leave())) }),
		onStat(func(s *api.Stat) { s.Blocks = append(s.Blocks, nil) }),
		onStat(func(s *api.Stat) { s.Blocks = append(s.Blocks, block(result(), leave())) }),
		onExpr(func(e *api.Expr) { e.Funcs = append(e.Funcs, api.Func{}) }),
		onExpr(func(e *api.Expr) { e.Funcs = append(e.Funcs, fn("", words("x"), result(item(dots()))).Funcs...) }),
		onExpr(func(e *api.Expr) { *e = api.Expr{} }), onStat(func(s *api.Stat) { *s = api.Stat{} }), onFunc(func(f *api.Func) { *f = api.Func{} }),
		onStat(func(s *api.Stat) { s.Left, s.Right = s.Right, s.Left }), onStat(func(s *api.Stat) { *s = do(*s) }),
		onExpr(func(e *api.Expr) { *e = paren(*e) }), onExpr(func(e *api.Expr) { *e = un(api.OpNeg, *e) }), onExpr(func(e *api.Expr) { *e = item(*e) }),
	}
}

// chance is a sequence of numbers that look as if they were random, the same ones in each run.
type chance uint64

// below returns a number from 0 to n - 1.
func (c *chance) below(n int) int {
	*c = *c*6364136223846793005 + 1442695040888963407
	return int(uint64(*c) >> 33 % uint64(n))
}

// text returns a text of a chunk that is the same for equal chunks only.
func text(b []api.Stat) string {
	w := &strings.Builder{}
	writeBlock(w, b)
	return w.String()
}

func writeBlock(w *strings.Builder, b []api.Stat) {
	for _, s := range b {
		fmt.Fprintf(w, "{%d %d %q %q", s.Kind, s.Line, s.Label, localTexts(s.Names))
		writeExprs(w, " L", s.Left)
		writeExprs(w, " R", s.Right)
		for _, x := range s.Blocks {
			w.WriteString(" B")
			writeBlock(w, x)
		}
		w.WriteString("}")
	}
}

func localTexts(l []api.Local) []string {
	var texts []string
	for _, x := range l {
		texts = append(texts, fmt.Sprint(x.Attr, x.Name))
	}
	return texts
}

func writeExprs(w *strings.Builder, mark string, l []api.Expr) {
	for _, e := range l {
		fmt.Fprintf(w, "%s(%d %d %d %d/%d %q", mark, e.Kind, e.Line, e.Op, e.Num.P, e.Num.Q, e.Str)
		writeExprs(w, " ", e.Args)
		for _, f := range e.Funcs {
			fmt.Fprintf(w, " F%q %q %t %d ", f.Name, f.Params, f.Vararg, f.Line)
			writeBlock(w, f.Body)
		}
		w.WriteString(")")
	}
}

// compare compares the result of Check with what is wanted, and counts it.
func compare(t *testing.T, b []api.Stat, counts map[api.Errno]int) {
	t.Helper()
	e, want := tree.Check(b), wantCheck(b)
	if e != want {
		t.Fatalf("Check(%.2000s): %d, want %d", text(b), int(e), int(want))
	}
	counts[e]++
}

// enough checks that all results of Check occurred often.
func enough(t *testing.T, counts map[api.Errno]int) {
	t.Helper()
	for _, e := range []api.Errno{api.OK, api.ErrLimit, api.ErrForm, api.ErrName} {
		if counts[e] < 100 {
			t.Errorf("only %d chunks with the result %d", counts[e], int(e))
		}
	}
}

// TestCheckChanges compares Check with a definition of its own, for each statement when one field is changed.
func TestCheckChanges(t *testing.T) {
	counts, all := map[api.Errno]int{}, changes()
	for _, s := range allKinds() {
		l, _ := survey(block(s))
		for i := range l {
			for _, c := range all {
				b := block(cloneStat(s))
				x, _ := survey(b)
				c(x[i])
				compare(t, b, counts)
			}
		}
	}
	enough(t, counts)
}

// TestCheckManyChanges changes several fields, one after the other.
func TestCheckManyChanges(t *testing.T) {
	counts, c, all := map[api.Errno]int{}, chance(1), changes()
	for range 20000 {
		b := allKinds()
		b = b[c.below(len(b)):]
		for range 1 + c.below(4) {
			x, _ := survey(b)
			all[c.below(len(all))](x[c.below(len(x))])
		}
		compare(t, b, counts)
	}
	enough(t, counts)
}
