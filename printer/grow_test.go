package printer_test

import (
	"slices"
	"strings"

	"scripting/api"
)

// grower makes well-formed trees from numbers that look like those of chance.
type grower struct{ state uint64 }

// below returns a number from 0 to n - 1.
func (g *grower) below(n int) int {
	g.state = g.state*6364136223846793005 + 1442695040888963407
	return int(g.state >> 33 % uint64(n))
}

// pick returns an element of a list.
func pick[T any](g *grower, l ...T) T { return l[g.below(len(l))] }

// some returns elements: at least and at most so many.
func some[T any](g *grower, least, most int, one func() T) []T {
	var l []T
	for range least + g.below(most-least+1) {
		l = append(l, one())
	}
	return l
}

func (g *grower) name() string {
	return pick(g, "a", "b", "x", "_", "const", "close", "self", "nan", strings.Repeat("n", 40))
}

func (g *grower) plain() api.Local { return api.Local{Name: g.name()} }

func (g *grower) local() api.Local {
	return api.Local{Name: g.name(), Attr: pick(g, api.Plain, api.Const, api.Close)}
}

// exprs returns expressions: at least and at most so many.
func (g *grower) exprs(depth, least, most int) []api.Expr {
	return some(g, least, most, func() api.Expr { return g.expr(depth) })
}

// block returns a block whose last statement may be a return.
func (g *grower) block(depth int) []api.Stat {
	b := some(g, 0, 4, func() api.Stat { return g.stat(depth) })
	if g.below(3) == 0 {
		b = append(b, api.Stat{Kind: api.SReturn, Line: g.below(9), Right: g.exprs(depth-1, 0, 2)})
	}
	return b
}

func (g *grower) blocks(depth, n int) [][]api.Stat {
	return some(g, n, n, func() []api.Stat { return g.block(depth - 1) })
}

// stat returns a statement that is no return.
func (g *grower) stat(depth int) api.Stat {
	kinds := []int{api.SLocal, api.SFunc, api.SAssign, api.SCall, api.SBreak, api.SGoto, api.SLabel}
	if depth > 0 {
		kinds = append(kinds, api.SDo, api.SWhile, api.SRepeat, api.SIf, api.SNum, api.SFor)
	}
	s := api.Stat{Kind: pick(g, kinds...), Line: g.below(9)}
	switch s.Kind {
	case api.SLocal:
		s.Names, s.Right = some(g, 1, 3, g.local), g.exprs(depth-1, 0, 2)
	case api.SFunc:
		s.Names = []api.Local{g.plain()}
		s.Right = []api.Expr{g.function(depth-1, s.Names[0].Name, nil)}
	case api.SAssign:
		g.assign(&s, depth)
	case api.SCall:
		s.Right = []api.Expr{g.call(depth - 1)}
	case api.SDo:
		s.Blocks = g.blocks(depth, 1)
	case api.SWhile, api.SRepeat:
		s.Right, s.Blocks = g.exprs(depth-1, 1, 1), g.blocks(depth, 1)
	case api.SIf:
		s.Right = g.exprs(depth-1, 1, 3)
		s.Blocks = g.blocks(depth, len(s.Right)+g.below(2))
	case api.SNum:
		s.Names, s.Right, s.Blocks = []api.Local{g.plain()}, g.exprs(depth-1, 2, 3), g.blocks(depth, 1)
	case api.SFor:
		s.Names, s.Right, s.Blocks = some(g, 1, 3, g.plain), g.exprs(depth-1, 1, 3), g.blocks(depth, 1)
	case api.SGoto, api.SLabel:
		s.Label = g.name()
	}
	return s
}

// assign gives an assignment its sides: those of a function statement, or others.
func (g *grower) assign(s *api.Stat, depth int) {
	if g.below(3) > 0 {
		s.Left = some(g, 1, 2, func() api.Expr { return g.left(depth - 1) })
		s.Right = g.exprs(depth-1, 1, 2)
		return
	}
	names := some(g, 1, 4, g.name)
	left := api.Expr{Kind: api.EName, Str: names[0]}
	for _, x := range names[1:] {
		left = api.Expr{Kind: api.EIndex, Line: g.below(9), Args: []api.Expr{left, {Kind: api.EString, Str: x}}}
	}
	text := strings.Join(names, ".")
	f := g.function(depth-1, text, nil)
	if at := strings.LastIndex(text, "."); at >= 0 && g.below(2) == 0 {
		f = g.function(depth-1, text[:at]+":"+text[at+1:], []string{"self"})
	}
	s.Left, s.Right = []api.Expr{left}, []api.Expr{f}
}

// left returns a left side.
func (g *grower) left(depth int) api.Expr {
	if depth <= 0 || g.below(2) == 0 {
		return api.Expr{Kind: api.EName, Line: g.below(9), Str: g.name()}
	}
	return g.index(depth)
}

// object returns an expression that can be indexed and called.
func (g *grower) object(depth int) api.Expr {
	e := g.expr(depth - 1)
	if e.Kind == api.EVararg {
		return g.left(depth - 1)
	}
	return e
}

// key returns a key, which often is a string.
func (g *grower) key(depth int) api.Expr {
	if g.below(2) == 0 {
		return g.expr(depth - 1)
	}
	return api.Expr{Kind: api.EString, Str: pick(g, g.name(), "end", "", "a b", "1", strings.Repeat("n", 41))}
}

func (g *grower) index(depth int) api.Expr {
	return api.Expr{Kind: api.EIndex, Line: g.below(9), Args: []api.Expr{g.object(depth), g.key(depth)}}
}

func (g *grower) call(depth int) api.Expr {
	e := api.Expr{Kind: pick(g, api.ECall, api.EMethod), Line: g.below(9), Args: append([]api.Expr{g.object(depth)}, g.exprs(depth-1, 0, 2)...)}
	if e.Kind == api.EMethod {
		e.Str = g.name()
	}
	return e
}

// function returns a function with some first parameters.
func (g *grower) function(depth int, name string, params []string) api.Expr {
	f := api.Func{Name: name, Line: g.below(9), Vararg: g.below(3) == 0, Params: append(slices.Clone(params), some(g, 0, 2, g.name)...)}
	if depth > 0 {
		f.Body = g.block(depth - 1)
	}
	return api.Expr{Kind: api.EFunc, Line: g.below(9), Funcs: []api.Func{f}}
}

func (g *grower) field(depth int) api.Expr {
	if g.below(2) == 0 {
		return api.Expr{Kind: api.EItem, Args: g.exprs(depth-1, 1, 1)}
	}
	return api.Expr{Kind: api.EPair, Args: []api.Expr{g.key(depth), g.expr(depth - 1)}}
}

// expr returns an expression that is no part of a table.
func (g *grower) expr(depth int) api.Expr {
	kinds := []int{api.ENil, api.ETrue, api.EFalse, api.ENumber, api.EString, api.EVararg, api.EName}
	if depth > 0 {
		kinds = append(kinds, api.EIndex, api.ECall, api.EFunc, api.ETable, api.EUnary, api.EUnary, api.EBinary, api.EBinary, api.EBinary, api.EAnd, api.EOr, api.EParen)
	}
	e := api.Expr{Kind: pick(g, kinds...), Line: g.below(9)}
	switch e.Kind {
	case api.ENumber:
		e.Num = pick(g, api.Num{P: 0, Q: 1}, api.Num{P: 12, Q: 1}, api.Num{P: 5, Q: 4}, api.Num{P: 1<<31 - 1, Q: 512}, api.Num{P: 7, Q: 1000000000}, api.Num{P: 1<<31 - 1, Q: 1953125})
	case api.EString:
		e.Str = pick(g, "", "a", "end", "--", "\n\t\\\"'\x00\xff", "é")
	case api.EName:
		e.Str = g.name()
	case api.EIndex:
		return g.index(depth)
	case api.ECall:
		return g.call(depth)
	case api.EFunc:
		return g.function(depth, "", nil)
	case api.ETable:
		e.Args = some(g, 0, 3, func() api.Expr { return g.field(depth) })
	case api.EUnary:
		e.Op, e.Args = api.OpNeg+g.below(api.OpBnot-api.OpNeg+1), g.exprs(depth-1, 1, 1)
	case api.EBinary:
		e.Op, e.Args = api.OpAdd+g.below(api.OpGe-api.OpAdd+1), g.exprs(depth-1, 2, 2)
	case api.EAnd, api.EOr:
		e.Args = g.exprs(depth-1, 2, 2)
	case api.EParen:
		e.Args = []api.Expr{pick(g, g.call(depth-1), api.Expr{Kind: api.EVararg})}
	}
	return e
}

// plainBlock returns a copy of a block in which all lines are 0.
func plainBlock(b []api.Stat) []api.Stat {
	b = slices.Clone(b)
	for i := range b {
		s := &b[i]
		s.Line = 0
		s.Names, s.Left, s.Right, s.Blocks = slices.Clone(s.Names), plainExprs(s.Left), plainExprs(s.Right), slices.Clone(s.Blocks)
		for k := range s.Blocks {
			s.Blocks[k] = plainBlock(s.Blocks[k])
		}
	}
	return b
}

// plainExprs returns a copy of expressions in which all lines are 0.
func plainExprs(l []api.Expr) []api.Expr {
	l = slices.Clone(l)
	for i := range l {
		e := &l[i]
		e.Line = 0
		e.Args, e.Funcs = plainExprs(e.Args), slices.Clone(e.Funcs)
		for k := range e.Funcs {
			f := &e.Funcs[k]
			f.Line = 0
			f.Params, f.Body = slices.Clone(f.Params), plainBlock(f.Body)
		}
	}
	return l
}
