package printer_test

import (
	"testing"

	"scripting/api"
	"scripting/parser"
	"scripting/printer"
	"scripting/tree"
)

// writes checks that a chunk has the text of the definitions, that it is read as the chunk again, and that what is
// read has the same text (P7.1 and P7.3). It returns the text.
func writes(t *testing.T, b []api.Stat) string {
	t.Helper()
	want := wantBlock(b)
	text, e := printer.Chunk(b)
	if text != want || e != api.OK {
		t.Fatalf("Chunk: error %d, %s; want %s", int(e), text, want)
	}
	read, line, e := parser.Chunk(text)
	if e != api.OK || !tree.Same(plainBlock(read), plainBlock(b)) {
		t.Fatalf("line %d, error %d: another chunk is read from %s", line, int(e), text)
	}
	if again, e := printer.Chunk(read); again != text || e != api.OK {
		t.Fatalf("Chunk: error %d, %s; want again %s", int(e), again, text)
	}
	return text
}

// writesExpr checks the same of an expression (P7.2 and P7.4).
func writesExpr(t *testing.T, x api.Expr) string {
	t.Helper()
	want := wantExpr(x)
	text, e := printer.Expr(x)
	if text != want || e != api.OK {
		t.Fatalf("Expr: error %d, %s; want %s", int(e), text, want)
	}
	read, line, e := parser.Expr(text)
	if e != api.OK || !tree.SameExpr(plainExprs([]api.Expr{read})[0], plainExprs([]api.Expr{x})[0]) {
		t.Fatalf("line %d, error %d: another expression is read from %s", line, int(e), text)
	}
	if again, e := printer.Expr(read); again != text || e != api.OK {
		t.Fatalf("Expr: error %d, %s; want again %s", int(e), again, text)
	}
	return text
}

// TestChunksByChance covers P7.1, P7.3, P7.5 and P7.6.
func TestChunksByChance(t *testing.T) {
	g := &grower{1}
	texts := map[string][]api.Stat{}
	kinds := map[int]int{}
	var before []api.Stat
	for range 10000 {
		b := g.block(g.below(5))
		text := writes(t, b)
		if other, found := texts[text]; found && !tree.Same(other, plainBlock(b)) {
			t.Fatalf("different chunks have the text %s", text)
		}
		texts[text] = plainBlock(b)
		if n := len(before); n == 0 || before[n-1].Kind != api.SReturn {
			joined := append(before[:n:n], b...)
			if got, e := printer.Chunk(joined); got != wantBlock(before)+text || e != api.OK {
				t.Fatalf("error %d: %s is not the text of two chunks %s%s", int(e), got, wantBlock(before), text)
			}
		}
		for _, s := range b {
			kinds[s.Kind]++
		}
		before = b
	}
	for kind := api.SLocal; kind <= api.SLabel; kind++ {
		if kinds[kind] < 300 {
			t.Errorf("only %d statements of the kind %d", kinds[kind], kind)
		}
	}
}

// TestExpressionsByChance covers P7.2 and P7.4.
func TestExpressionsByChance(t *testing.T) {
	g := &grower{2}
	kinds := map[int]int{}
	for range 20000 {
		x := g.expr(g.below(5))
		writesExpr(t, x)
		kinds[x.Kind]++
	}
	for kind := api.ENil; kind <= api.EParen; kind++ {
		if kinds[kind] < 200 && kind != api.EItem && kind != api.EPair {
			t.Errorf("only %d expressions of the kind %d", kinds[kind], kind)
		}
	}
}

// TestOtherTexts covers P7.5: chunks with a small difference have the same text if only lines are different.
func TestOtherTexts(t *testing.T) {
	g := &grower{3}
	same, different := 0, 0
	for range 6000 {
		state := g.state
		a := g.block(4)
		g.state = state
		b := g.block(4)
		change(g, b)
		if tree.Check(b) != api.OK {
			continue
		}
		textA, textB := writes(t, a), writes(t, b)
		equal := tree.Same(plainBlock(a), plainBlock(b))
		if equal != (textA == textB) {
			t.Fatalf("the texts of two chunks, equal: %t\n%s\n%s", equal, textA, textB)
		}
		if equal {
			same++
		} else {
			different++
		}
	}
	if same < 300 || different < 300 {
		t.Errorf("%d chunks that are the same, %d different ones", same, different)
	}
}

// change changes a field somewhere in a block.
func change(g *grower, b []api.Stat) {
	if len(b) == 0 {
		return
	}
	s := &b[g.below(len(b))]
	if n := len(s.Blocks); n > 0 && g.below(2) == 0 {
		change(g, s.Blocks[g.below(n)])
		return
	}
	if n := len(s.Right); n > 0 && g.below(4) > 0 {
		changeExpr(g, &s.Right[g.below(n)])
		return
	}
	switch g.below(4) {
	case 0:
		s.Line += 7
	case 1:
		if s.Label != "" {
			s.Label += "z"
		}
	case 2:
		for i := range s.Names {
			s.Names[i].Attr = g.below(3)
		}
	default:
		s.Kind = api.SLocal + g.below(api.SLabel-api.SLocal+1)
	}
}

// changeExpr changes a field somewhere in an expression.
func changeExpr(g *grower, e *api.Expr) {
	if n := len(e.Args); n > 0 && g.below(3) > 0 {
		changeExpr(g, &e.Args[g.below(n)])
		return
	}
	if len(e.Funcs) > 0 && g.below(2) == 0 {
		change(g, e.Funcs[0].Body)
		return
	}
	switch g.below(4) {
	case 0:
		e.Line += 7
	case 1:
		e.Str += "z"
	case 2:
		e.Op = max(e.Op, g.below(api.OpBnot+1))
	default:
		for i := range e.Funcs {
			f := &e.Funcs[i]
			f.Line, f.Vararg = f.Line+7, g.below(2) == 0
		}
		if e.Num.Q > 0 {
			e.Num.P = g.below(9)*e.Num.Q + 1
		}
	}
}
