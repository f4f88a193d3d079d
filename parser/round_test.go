package parser_test

import (
	"slices"
	"strings"
	"testing"

	"scripting/api"
	"scripting/lexer"
	"scripting/parser"
	"scripting/tree"
)

// grower makes well-formed trees by chance.
type grower struct{ *chance }

// one returns a word of a text by chance.
func (g grower) one(s string) string {
	l := strings.Fields(s)
	return l[g.below(len(l))]
}

func (g grower) name() string { return g.one("a b x _ const close self main long_name") }

func (g grower) block(depth int) []api.Stat {
	var b []api.Stat
	for range g.below(4) {
		b = append(b, g.stat(depth))
	}
	if g.below(4) == 0 {
		b = append(b, api.Stat{Kind: api.SReturn, Right: g.exprs(depth, 0)})
	}
	return b
}

// exprs returns expressions, at least as many as said.
func (g grower) exprs(depth, least int) []api.Expr {
	var l []api.Expr
	for range least + g.below(3) {
		l = append(l, g.expr(depth-1))
	}
	return l
}

func (g grower) locals(n, attributes int) []api.Local {
	var l []api.Local
	for range n {
		l = append(l, api.Local{Name: g.name(), Attr: g.below(attributes)})
	}
	return l
}

func (g grower) stat(depth int) api.Stat {
	kind := api.SLocal + g.below(api.SLabel-api.SLocal+1)
	if depth <= 0 && kind >= api.SDo && kind <= api.SFor {
		kind = api.SBreak
	}
	s := api.Stat{Kind: kind}
	body := func() [][]api.Stat { return [][]api.Stat{g.block(depth - 1)} }
	switch kind {
	case api.SLocal:
		s.Names, s.Right = g.locals(1+g.below(3), 3), g.exprs(depth, 0)
	case api.SFunc:
		s.Names = g.locals(1, 1)
		s.Right = []api.Expr{g.function(depth, s.Names[0].Name)}
	case api.SAssign:
		g.assign(&s, depth)
	case api.SCall:
		s.Right = []api.Expr{g.call(depth)}
	case api.SDo:
		s.Blocks = body()
	case api.SWhile, api.SRepeat:
		s.Right, s.Blocks = []api.Expr{g.expr(depth - 1)}, body()
	case api.SIf:
		s.Right = g.exprs(depth, 1)
		for range len(s.Right) + g.below(2) {
			s.Blocks = append(s.Blocks, g.block(depth-1))
		}
	case api.SNum:
		s.Names, s.Right, s.Blocks = g.locals(1, 1), g.exprs(depth, 2), body()
		s.Right = s.Right[:min(3, len(s.Right))]
	case api.SFor:
		s.Names, s.Right, s.Blocks = g.locals(1+g.below(3), 1), g.exprs(depth, 1), body()
	case api.SGoto, api.SLabel:
		s.Label = g.name()
	case api.SReturn:
		s.Kind = api.SBreak
	}
	return s
}

// assign gives an assignment its sides: those of a function statement, or others.
func (g grower) assign(s *api.Stat, depth int) {
	if g.below(2) == 0 {
		for range 1 + g.below(2) {
			s.Left = append(s.Left, g.variable(depth))
		}
		s.Right = g.exprs(depth, 1)
		return
	}
	text := g.name()
	e := api.Expr{Kind: api.EName, Str: text}
	sign := "."
	for n := g.below(4); n > 0; n-- {
		key := g.name()
		if n == 1 && g.below(2) == 0 {
			sign = ":"
		}
		text += sign + key
		e = api.Expr{Kind: api.EIndex, Args: []api.Expr{e, {Kind: api.EString, Str: key}}}
	}
	f := g.function(depth, text)
	if sign == ":" {
		f.Funcs[0].Params = append([]string{"self"}, f.Funcs[0].Params...)
	}
	s.Left, s.Right = []api.Expr{e}, []api.Expr{f}
}

// variable returns a left side.
func (g grower) variable(depth int) api.Expr {
	if depth <= 0 || g.below(2) == 0 {
		return api.Expr{Kind: api.EName, Str: g.name()}
	}
	key := api.Expr{Kind: api.EString, Str: g.name()}
	if g.below(2) == 0 {
		key = g.expr(depth - 1)
	}
	return api.Expr{Kind: api.EIndex, Args: []api.Expr{g.object(depth - 1), key}}
}

// object returns what can be indexed or called.
func (g grower) object(depth int) api.Expr {
	e := g.expr(depth)
	if e.Kind == api.EVararg {
		return g.variable(depth)
	}
	return e
}

func (g grower) call(depth int) api.Expr {
	e := api.Expr{Kind: api.ECall, Args: []api.Expr{g.object(depth - 1)}}
	if g.below(3) == 0 {
		e.Kind, e.Str = api.EMethod, g.name()
	}
	if g.below(4) == 0 {
		e.Args = append(e.Args, g.table(depth))
	} else if depth > 0 {
		e.Args = append(e.Args, g.exprs(depth, 0)...)
	}
	return e
}

func (g grower) function(depth int, name string) api.Expr {
	f := api.Func{Name: name, Vararg: g.below(3) == 0}
	for range g.below(3) {
		f.Params = append(f.Params, g.name())
	}
	if depth > 0 {
		f.Body = g.block(depth - 1)
	}
	return api.Expr{Kind: api.EFunc, Funcs: []api.Func{f}}
}

func (g grower) table(depth int) api.Expr {
	e := api.Expr{Kind: api.ETable}
	if depth <= 0 {
		return e
	}
	for range g.below(4) {
		switch g.below(3) {
		case 0:
			e.Args = append(e.Args, api.Expr{Kind: api.EItem, Args: []api.Expr{g.expr(depth - 1)}})
		case 1:
			e.Args = append(e.Args, api.Expr{Kind: api.EPair, Args: []api.Expr{g.expr(depth - 1), g.expr(depth - 1)}})
		default:
			key := api.Expr{Kind: api.EString, Str: g.name()}
			e.Args = append(e.Args, api.Expr{Kind: api.EPair, Args: []api.Expr{key, g.expr(depth - 1)}})
		}
	}
	return e
}

func (g grower) expr(depth int) api.Expr {
	if depth <= 0 {
		return g.leaf()
	}
	switch g.below(10) {
	case 0:
		return api.Expr{Kind: api.EUnary, Op: api.OpNeg + g.below(api.OpBnot-api.OpNeg+1), Args: []api.Expr{g.expr(depth - 1)}}
	case 1, 2, 3:
		return api.Expr{Kind: api.EBinary, Op: api.OpAdd + g.below(api.OpGe-api.OpAdd+1), Args: []api.Expr{g.expr(depth - 1), g.expr(depth - 1)}}
	case 4:
		return api.Expr{Kind: api.EAnd + g.below(api.EOr-api.EAnd+1), Args: []api.Expr{g.expr(depth - 1), g.expr(depth - 1)}}
	case 5:
		return g.call(depth)
	case 6:
		return g.variable(depth)
	case 7:
		return g.table(depth)
	case 8:
		if g.below(2) == 0 {
			return api.Expr{Kind: api.EParen, Args: []api.Expr{{Kind: api.EVararg}}}
		}
		return api.Expr{Kind: api.EParen, Args: []api.Expr{g.call(depth - 1)}}
	}
	return g.function(depth, "")
}

// leaf returns an expression without parts.
func (g grower) leaf() api.Expr {
	switch g.below(7) {
	case 0:
		return api.Expr{Kind: api.ENil + g.below(3)}
	case 1:
		return api.Expr{Kind: api.ENumber, Num: numbers[g.below(len(numbers))].num}
	case 2:
		return api.Expr{Kind: api.EString, Str: []string{"", "a b", "end", "(", "x", "\n\x00é'\"\\"}[g.below(6)]}
	case 3:
		return api.Expr{Kind: api.EVararg}
	}
	return api.Expr{Kind: api.EName, Str: g.name()}
}

// TestTreesOfTexts writes trees and reads them again.
func TestTreesOfTexts(t *testing.T) {
	c := chance(5)
	kinds := map[int]int{}
	for range 6000 {
		b := grower{&c}.block(1 + c.below(5))
		w := newWriter(&c, true)
		w.block(b)
		if e := tree.Check(b); e != api.OK {
			t.Fatalf("a tree is not well-formed: %d, %s", int(e), w.text.String())
		}
		got, line, e := parser.Chunk(w.text.String())
		if line != 0 || e != api.OK || !tree.Same(got, b) {
			t.Fatalf("Chunk(%s): %s, line %d, error %d; want %s", w.text.String(), lined.block(got), line, int(e), lined.block(b))
		}
		for x := range tree.Each(b) {
			kinds[x.Kind]++
		}
	}
	for kind := api.ENil; kind <= api.EParen; kind++ {
		if kinds[kind] < 1000 {
			t.Errorf("only %d expressions of the kind %d", kinds[kind], kind)
		}
	}
}

// TestTreesOfExpressions covers P6.5: it writes expressions and reads them again, also as part of a chunk.
func TestTreesOfExpressions(t *testing.T) {
	c := chance(6)
	for range 4000 {
		x := grower{&c}.expr(1 + c.below(5))
		w := newWriter(&c, c.below(2) == 0)
		w.expr(&x, 0)
		text := w.text.String()
		got, line, e := parser.Expr(text)
		if line != 0 || e != api.OK || !tree.SameExpr(got, x) || tree.Expr(got) != api.OK {
			t.Fatalf("Expr(%s): %s, line %d, error %d; want %s", text, lined.expr(got), line, int(e), lined.expr(x))
		}
		b, line, e := parser.Chunk("return " + text)
		want := []api.Stat{{Kind: api.SReturn, Line: 1, Right: []api.Expr{x}}}
		if line != 0 || e != api.OK || !tree.Same(b, want) {
			t.Fatalf("Chunk(return %s): %s, line %d, error %d; want %s", text, lined.block(b), line, int(e), lined.block(want))
		}
	}
}

// TestOnlyTokens covers P6.4: it writes the same tokens with other blanks and other literals of the strings.
func TestOnlyTokens(t *testing.T) {
	c := chance(8)
	for range 1000 {
		w := newWriter(&c, true)
		w.block(grower{&c}.block(4))
		tokens, _, _ := lexer.Scan(w.text.String())
		if c.below(2) == 0 && len(tokens) > 0 {
			tokens = slices.Delete(tokens, c.below(len(tokens)), len(tokens))
		}
		a, lineA, errorA := parser.Chunk(spread(tokens, " ", "\n"))
		b, lineB, errorB := parser.Chunk(spread(tokens, "\t\r ", "-- x\n"))
		if !tree.Same(a, b) || lineA != lineB || errorA != errorB {
			t.Fatalf("other blanks in %q: line %d, error %d; line %d, error %d", spread(tokens, " ", "\n"), lineA, int(errorA), lineB, int(errorB))
		}
	}
}

// spread returns a text of tokens, with a blank after each one, and the line feeds that their lines need.
func spread(tokens []api.Token, blank, feed string) string {
	var b strings.Builder
	line := 1
	for i, x := range tokens {
		b.WriteString(strings.Repeat(feed, x.Line-line))
		line = x.Line
		b.WriteString(lexer.Join(tokens[i : i+1]))
		b.WriteString(blank)
	}
	return b.String()
}

// TestNothingIsKept reads texts again after other ones, and after their trees have been changed.
func TestNothingIsKept(t *testing.T) {
	s := "local a <const>, b = f{x = 1, 'y'} function a.b:c(...) return (...) end"
	first, _, _ := parser.Chunk(s)
	want := lined.block(first)
	first[0].Names[0].Name, first[0].Right[0].Args[0].Str, first[1].Left[0].Args[0].Str = "", "", ""
	first[1].Right[0].Funcs[0].Params[0] = ""
	parser.Chunk("x = = 1")
	reads(t, lined, s, want)
}
