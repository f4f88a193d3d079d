package tree_test

import (
	"slices"
	"strings"

	"scripting/api"
)

// The functions of this file build trees.

func num(p, q int) api.Expr     { return api.Expr{Kind: api.ENumber, Num: api.Num{P: p, Q: q}} }
func str(s string) api.Expr     { return api.Expr{Kind: api.EString, Str: s} }
func name(s string) api.Expr    { return api.Expr{Kind: api.EName, Str: s} }
func leaf(kind int) api.Expr    { return api.Expr{Kind: kind} }
func dots() api.Expr            { return leaf(api.EVararg) }
func item(e api.Expr) api.Expr  { return of(api.EItem, e) }
func paren(e api.Expr) api.Expr { return of(api.EParen, e) }

// of returns an expression with arguments.
func of(kind int, args ...api.Expr) api.Expr { return api.Expr{Kind: kind, Args: args} }

// un and bin return expressions with an operator.
func un(op int, e api.Expr) api.Expr { return api.Expr{Kind: api.EUnary, Op: op, Args: list(e)} }
func bin(op int, a, b api.Expr) api.Expr {
	return api.Expr{Kind: api.EBinary, Op: op, Args: list(a, b)}
}

func index(object, key api.Expr) api.Expr        { return of(api.EIndex, object, key) }
func field(object api.Expr, key string) api.Expr { return index(object, str(key)) }
func pair(key, value api.Expr) api.Expr          { return of(api.EPair, key, value) }
func table(items ...api.Expr) api.Expr           { return of(api.ETable, items...) }
func call(f api.Expr, args ...api.Expr) api.Expr { return of(api.ECall, append(list(f), args...)...) }

func method(object api.Expr, m string, args ...api.Expr) api.Expr {
	e := of(api.EMethod, append(list(object), args...)...)
	e.Str = m
	return e
}

// fn returns the expression of a function; a last parameter ... is no name.
func fn(name string, params []string, body ...api.Stat) api.Expr {
	f := api.Func{Name: name, Params: params, Body: body}
	if n := len(params); n > 0 && params[n-1] == "..." {
		f.Params, f.Vararg = params[:n-1], true
	}
	return api.Expr{Kind: api.EFunc, Funcs: []api.Func{f}}
}

func list(l ...api.Expr) []api.Expr       { return l }
func block(l ...api.Stat) []api.Stat      { return l }
func words(s string) []string             { return strings.Fields(s) }
func blocks(l ...[]api.Stat) [][]api.Stat { return l }

// vars returns plain local variables.
func vars(s string) []api.Local {
	var l []api.Local
	for _, x := range words(s) {
		l = append(l, api.Local{Name: x})
	}
	return l
}

func local(names string, right ...api.Expr) api.Stat {
	return api.Stat{Kind: api.SLocal, Names: vars(names), Right: right}
}

func localFunc(name string, f api.Expr) api.Stat {
	return api.Stat{Kind: api.SFunc, Names: vars(name), Right: list(f)}
}

func assign(left []api.Expr, right ...api.Expr) api.Stat {
	return api.Stat{Kind: api.SAssign, Left: left, Right: right}
}

func do(body ...api.Stat) api.Stat { return api.Stat{Kind: api.SDo, Blocks: blocks(body)} }

func callStat(e api.Expr) api.Stat { return api.Stat{Kind: api.SCall, Right: list(e)} }

func while(e api.Expr, body ...api.Stat) api.Stat {
	return api.Stat{Kind: api.SWhile, Right: list(e), Blocks: blocks(body)}
}

func repeat(e api.Expr, body ...api.Stat) api.Stat {
	return api.Stat{Kind: api.SRepeat, Right: list(e), Blocks: blocks(body)}
}

func choice(right []api.Expr, b ...[]api.Stat) api.Stat {
	return api.Stat{Kind: api.SIf, Right: right, Blocks: b}
}

func numeric(v string, right []api.Expr, body ...api.Stat) api.Stat {
	return api.Stat{Kind: api.SNum, Names: vars(v), Right: right, Blocks: blocks(body)}
}

func generic(v string, right []api.Expr, body ...api.Stat) api.Stat {
	return api.Stat{Kind: api.SFor, Names: vars(v), Right: right, Blocks: blocks(body)}
}

func result(right ...api.Expr) api.Stat { return api.Stat{Kind: api.SReturn, Right: right} }
func leave() api.Stat                   { return api.Stat{Kind: api.SBreak} }
func jump(l string) api.Stat            { return api.Stat{Kind: api.SGoto, Label: l} }
func label(l string) api.Stat           { return api.Stat{Kind: api.SLabel, Label: l} }

// allKinds returns a well-formed chunk with all kinds of statements and expressions.
func allKinds() []api.Stat {
	return block(
		local("a b", num(1, 2), leaf(api.ENil), leaf(api.ETrue), leaf(api.EFalse)),
		api.Stat{Kind: api.SLocal, Names: []api.Local{{Name: "c", Attr: api.Const}, {Name: "d", Attr: api.Close}}},
		localFunc("f", fn("f", words("x y ..."), result(dots(), name("x")))),
		assign(list(name("g")), fn("g", nil)),
		assign(list(field(field(name("a"), "b"), "c")), fn("a.b:c", words("self z"), do())),
		assign(list(name("a"), index(name("b"), num(3, 1))), paren(dots()), fn("", words("...")), table()),
		callStat(call(name("print"), table(item(str("x y")), pair(str("k"), num(0, 1)), item(dots())), paren(call(name("f"))))),
		callStat(method(str(""), "rep", un(api.OpNeg, num(2, 1)), un(api.OpBnot, name("a")))),
		while(bin(api.OpLt, name("a"), bin(api.OpConcat, name("b"), str("s"))), leave(), leave()),
		repeat(of(api.EOr, leaf(api.ETrue), of(api.EAnd, name("a"), un(api.OpNot, name("b")))), label("l"), callStat(call(name("f"), dots())), jump("l")),
		choice(list(name("a")), block(do(label("x")))),
		choice(list(name("a"), un(api.OpLen, name("b"))), block(result()), block(), block(result(name("c")))),
		numeric("i", list(num(1, 1), num(9, 1000000000)), callStat(call(name("i"))), leave()),
		numeric("i", list(num(1, 1), num(1, 512), paren(method(name("i"), "m")))),
		generic("k v", list(call(name("pairs"), name("t")), name("s")), do(result())),
		result(bin(api.OpAdd, name("x"), bin(api.OpGe, name("y"), num(7, 1))), call(paren(dots()), dots())),
	)
}

// cloneBlock, cloneStat, cloneExpr and cloneFunc return copies.
func cloneBlock(b []api.Stat) []api.Stat {
	b = slices.Clone(b)
	for i := range b {
		b[i] = cloneStat(b[i])
	}
	return b
}

func cloneStat(s api.Stat) api.Stat {
	s.Names = slices.Clone(s.Names)
	s.Left, s.Right = cloneExprs(s.Left), cloneExprs(s.Right)
	s.Blocks = slices.Clone(s.Blocks)
	for i := range s.Blocks {
		s.Blocks[i] = cloneBlock(s.Blocks[i])
	}
	return s
}

func cloneExprs(l []api.Expr) []api.Expr {
	l = slices.Clone(l)
	for i := range l {
		l[i] = cloneExpr(l[i])
	}
	return l
}

func cloneExpr(e api.Expr) api.Expr {
	e.Args = cloneExprs(e.Args)
	e.Funcs = slices.Clone(e.Funcs)
	for i := range e.Funcs {
		e.Funcs[i] = cloneFunc(e.Funcs[i])
	}
	return e
}

func cloneFunc(f api.Func) api.Func {
	f.Params, f.Body = slices.Clone(f.Params), cloneBlock(f.Body)
	return f
}
