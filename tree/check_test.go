package tree_test

import (
	"strings"
	"testing"

	"scripting/api"
	"scripting/tree"
)

// checks compares the result of Check with what is wanted.
func checks(t *testing.T, what string, b []api.Stat, want api.Errno) {
	t.Helper()
	if e := tree.Check(b); e != want {
		t.Errorf("Check of %s: %d, want %d", what, int(e), int(want))
	}
}

// long returns a name of n bytes.
func long(n int) string { return strings.Repeat("n", n) }

func TestCheckExamples(t *testing.T) {
	checks(t, "an SLocal without Names", block(api.Stat{Kind: api.SLocal}), api.ErrForm)
	checks(t, "local end", block(local("end")), api.ErrName)
	checks(t, "nothing", nil, api.OK)
	checks(t, "an empty list", block(), api.OK)
	checks(t, "local x = 1 + 2", block(local("x", bin(api.OpAdd, num(1, 1), num(2, 1)))), api.OK)
}

func TestCheckAllKinds(t *testing.T) {
	b := allKinds()
	checks(t, "all kinds", b, api.OK)
	for i, s := range b {
		if i+1 < len(b) {
			checks(t, "a statement and a return", block(s, result()), api.OK)
		}
		checks(t, "one statement", block(s), api.OK)
		checks(t, "a statement in a statement", block(do(s), leave()), api.OK)
	}
}

func TestCheckStatements(t *testing.T) {
	one := num(1, 1)
	attr := func(kind, a int, s api.Stat) api.Stat {
		s.Kind, s.Names = kind, append(s.Names, api.Local{Name: "z", Attr: a})
		return s
	}
	labelled := func(s api.Stat) api.Stat { s.Label = "l"; return s }
	for _, c := range []struct {
		what string
		s    api.Stat
		want api.Errno
	}{
		{"no kind", api.Stat{}, api.ErrForm},
		{"a negative kind", api.Stat{Kind: -1}, api.ErrForm},
		{"an unknown kind", api.Stat{Kind: api.SLabel + 1, Label: "l"}, api.ErrForm},
		{"a negative line", api.Stat{Kind: api.SBreak, Line: -1}, api.ErrForm},
		{"a great line", api.Stat{Kind: api.SBreak, Line: 1 << 40}, api.OK},
		{"SLocal", local("a b", one, one, one), api.OK},
		{"SLocal with an unknown attribute", attr(api.SLocal, 3, api.Stat{}), api.ErrForm},
		{"SLocal with a negative attribute", attr(api.SLocal, -1, api.Stat{}), api.ErrForm},
		{"SLocal with Left", api.Stat{Kind: api.SLocal, Names: vars("a"), Left: list(name("a"))}, api.ErrForm},
		{"SLocal with a block", api.Stat{Kind: api.SLocal, Names: vars("a"), Blocks: blocks(nil)}, api.ErrForm},
		{"SLocal with a label", labelled(local("a")), api.ErrForm},
		{"SFunc", localFunc("f", fn("f", nil)), api.OK},
		{"SFunc with an attribute", api.Stat{Kind: api.SFunc, Names: []api.Local{{Name: "f", Attr: api.Const}}, Right: list(fn("f", nil))}, api.ErrForm},
		{"SFunc with two names", localFunc("f g", fn("f", nil)), api.ErrForm},
		{"SFunc of a table", localFunc("f", table()), api.ErrForm},
		{"SFunc of no function", api.Stat{Kind: api.SFunc, Names: vars("f")}, api.ErrForm},
		{"SAssign without Right", assign(list(name("a"))), api.ErrForm},
		{"SAssign without Left", assign(nil, one), api.ErrForm},
		{"SAssign to a call", assign(list(name("a"), call(name("f"))), one), api.ErrForm},
		{"SAssign to an EParen", assign(list(paren(call(name("f")))), one), api.ErrForm},
		{"SAssign with names", api.Stat{Kind: api.SAssign, Names: vars("a"), Left: list(name("a")), Right: list(one)}, api.ErrForm},
		{"SAssign to an index", assign(list(index(one, one)), one), api.OK},
		{"SCall of a name", callStat(name("a")), api.ErrForm},
		{"SCall of an EParen", callStat(paren(call(name("f")))), api.ErrForm},
		{"SCall of a method", callStat(method(name("a"), "m")), api.OK},
		{"two calls", api.Stat{Kind: api.SCall, Right: list(call(name("f")), call(name("f")))}, api.ErrForm},
		{"SDo without a block", api.Stat{Kind: api.SDo}, api.ErrForm},
		{"SDo with two blocks", api.Stat{Kind: api.SDo, Blocks: blocks(nil, nil)}, api.ErrForm},
		{"SDo with a condition", api.Stat{Kind: api.SDo, Right: list(one), Blocks: blocks(nil)}, api.ErrForm},
		{"SWhile without a block", api.Stat{Kind: api.SWhile, Right: list(one)}, api.ErrForm},
		{"SWhile without a condition", api.Stat{Kind: api.SWhile, Blocks: blocks(nil)}, api.ErrForm},
		{"SRepeat with two conditions", api.Stat{Kind: api.SRepeat, Right: list(one, one), Blocks: blocks(nil)}, api.ErrForm},
		{"SRepeat", repeat(one), api.OK},
		{"SIf without an else", choice(list(one, one), nil, nil), api.OK},
		{"SIf with an else", choice(list(one, one), nil, nil, nil), api.OK},
		{"SIf with two more blocks", choice(list(one), nil, nil, nil), api.ErrForm},
		{"SIf with a block less", choice(list(one, one), nil), api.ErrForm},
		{"SIf without a condition", choice(nil, nil), api.ErrForm},
		{"SNum with one number", numeric("i", list(one)), api.ErrForm},
		{"SNum with four numbers", numeric("i", list(one, one, one, one)), api.ErrForm},
		{"SNum with two variables", numeric("i j", list(one, one)), api.ErrForm},
		{"SNum with an attribute", attr(api.SNum, api.Const, api.Stat{Right: list(one, one), Blocks: blocks(nil)}), api.ErrForm},
		{"SFor with an attribute", attr(api.SFor, api.Close, generic("k", list(one))), api.ErrForm},
		{"SFor without a variable", generic("", list(one)), api.ErrForm},
		{"SFor without an expression", generic("k", nil), api.ErrForm},
		{"SReturn with a label", labelled(result()), api.ErrForm},
		{"SBreak with a label", labelled(leave()), api.ErrForm},
		{"SBreak with a block", api.Stat{Kind: api.SBreak, Blocks: blocks(nil)}, api.ErrForm},
		{"SGoto with an expression", api.Stat{Kind: api.SGoto, Label: "l", Right: list(one)}, api.ErrForm},
		{"SGoto without a label", jump(""), api.ErrName},
		{"SLabel with a keyword", label("until"), api.ErrName},
		{"SLabel with a digit", label("1a"), api.ErrName},
		{"a name with a space", numeric("i", list(one, one), local("a"), api.Stat{Kind: api.SLocal, Names: []api.Local{{Name: "a b"}}}), api.ErrName},
		{"an empty name", api.Stat{Kind: api.SFor, Names: []api.Local{{}}, Right: list(one), Blocks: blocks(nil)}, api.ErrName},
	} {
		checks(t, c.what, block(c.s), c.want)
	}
	checks(t, "SReturn before a statement", block(result(), leave()), api.ErrForm)
	checks(t, "SReturn before a statement in a block", block(do(result(), result())), api.ErrForm)
}

func TestCheckExpressions(t *testing.T) {
	one, a := num(1, 1), name("a")
	with := func(e api.Expr, set func(e *api.Expr)) api.Expr { set(&e); return e }
	for _, c := range []struct {
		what string
		e    api.Expr
		want api.Errno
	}{
		{"no kind", api.Expr{}, api.ErrForm},
		{"a negative kind", leaf(-1), api.ErrForm},
		{"an unknown kind", api.Expr{Kind: api.EParen + 1, Args: list(dots())}, api.ErrForm},
		{"a negative line", api.Expr{Kind: api.ENil, Line: -1}, api.ErrForm},
		{"nil with a string", api.Expr{Kind: api.ENil, Str: "x"}, api.ErrForm},
		{"true with a number", api.Expr{Kind: api.ETrue, Num: api.Num{P: 1, Q: 1}}, api.ErrForm},
		{"false with an argument", of(api.EFalse, one), api.ErrForm},
		{"... with an operator", api.Expr{Kind: api.EVararg, Op: 1}, api.ErrForm},
		{"... with a function", api.Expr{Kind: api.EVararg, Funcs: []api.Func{{}}}, api.ErrForm},
		{"0", num(0, 1), api.OK},
		{"MaxNum", num(api.MaxNum, 1), api.OK},
		{"more than MaxNum", num(api.MaxNum+1, 1), api.ErrForm},
		{"a negative number", num(-1, 1), api.ErrForm},
		{"no number", num(0, 0), api.ErrForm},
		{"a number that is not in lowest terms", num(2, 4), api.ErrForm},
		{"1/512", num(1, 512), api.OK},
		{"1/1024", num(1, 1024), api.ErrForm},
		{"1/1000000000", num(1, 1000000000), api.OK},
		{"1/2000000000", num(1, 2000000000), api.ErrForm},
		{"1/3", num(1, 3), api.ErrForm},
		{"1/15", num(1, 15), api.ErrForm},
		{"a number with a string", with(one, func(e *api.Expr) { e.Str = "1" }), api.ErrForm},
		{"the empty string", str(""), api.OK},
		{"a string of any bytes", str("end \x00\xff"), api.OK},
		{"a string with a number", with(str(""), func(e *api.Expr) { e.Num = one.Num }), api.ErrForm},
		{"a keyword", name("nil"), api.ErrName},
		{"an empty name", name(""), api.ErrName},
		{"a name with a point", name("a.b"), api.ErrName},
		{"an index of ...", index(dots(), one), api.ErrForm},
		{"an index with ...", index(a, dots()), api.OK},
		{"an index without a key", of(api.EIndex, a), api.ErrForm},
		{"an index with two keys", of(api.EIndex, a, one, one), api.ErrForm},
		{"a call of ...", call(dots()), api.ErrForm},
		{"a call of a string", call(str(""), dots(), dots()), api.OK},
		{"a call of nothing", of(api.ECall), api.ErrForm},
		{"a call with a name", with(call(a), func(e *api.Expr) { e.Str = "f" }), api.ErrForm},
		{"a method of ...", method(dots(), "m"), api.ErrForm},
		{"a method of nothing", api.Expr{Kind: api.EMethod, Str: "m"}, api.ErrForm},
		{"a method without a name", method(a, ""), api.ErrName},
		{"a method with the name of a keyword", method(a, "end"), api.ErrName},
		{"EFunc without a function", leaf(api.EFunc), api.ErrForm},
		{"EFunc with two functions", api.Expr{Kind: api.EFunc, Funcs: make([]api.Func, 2)}, api.ErrForm},
		{"EFunc with a string", with(fn("", nil), func(e *api.Expr) { e.Str = "f" }), api.ErrForm},
		{"EFunc with an argument", with(fn("", nil), func(e *api.Expr) { e.Args = list(one) }), api.ErrForm},
		{"a function in a negative line", api.Expr{Kind: api.EFunc, Funcs: []api.Func{{Line: -1}}}, api.ErrForm},
		{"a function with a Name", fn("f", nil), api.ErrForm},
		{"a parameter that is a keyword", fn("", words("a end")), api.ErrName},
		{"a parameter that is ...", api.Expr{Kind: api.EFunc, Funcs: []api.Func{{Params: words("...")}}}, api.ErrName},
		{"a function with varargs", fn("", words("a a self ...")), api.OK},
		{"an error in a function", fn("", nil, leave(), local("or")), api.ErrName},
		{"a return in a function", fn("", nil, result(), leave()), api.ErrForm},
		{"a table of a name", table(item(one), a), api.ErrForm},
		{"a table of a table", table(table()), api.ErrForm},
		{"a table with a pair of ...", table(pair(dots(), dots())), api.OK},
		{"an item", item(one), api.ErrForm},
		{"a pair", pair(one, one), api.ErrForm},
		{"an item in an item", table(item(item(one))), api.ErrForm},
		{"a pair in a function of a table", table(item(fn("", nil, result(pair(one, one))))), api.ErrForm},
		{"an item with two values", table(of(api.EItem, one, one)), api.ErrForm},
		{"an empty item", table(of(api.EItem)), api.ErrForm},
		{"a pair with one value", table(of(api.EPair, one)), api.ErrForm},
		{"a pair with three values", table(of(api.EPair, one, one, one)), api.ErrForm},
		{"no unary operator", un(0, one), api.ErrForm},
		{"a binary operator of one operand", un(api.OpGe, one), api.ErrForm},
		{"an unknown operator", un(api.OpBnot+1, one), api.ErrForm},
		{"a unary operator of two operands", bin(api.OpNeg, one, one), api.ErrForm},
		{"no binary operator", bin(0, one, one), api.ErrForm},
		{"EUnary with two operands", api.Expr{Kind: api.EUnary, Op: api.OpNeg, Args: list(one, one)}, api.ErrForm},
		{"EBinary with one operand", api.Expr{Kind: api.EBinary, Op: api.OpAdd, Args: list(one)}, api.ErrForm},
		{"operators of ...", bin(api.OpAdd, dots(), un(api.OpLen, dots())), api.OK},
		{"EAnd with one operand", of(api.EAnd, one), api.ErrForm},
		{"EOr with three operands", of(api.EOr, one, one, one), api.ErrForm},
		{"EAnd with an operator", api.Expr{Kind: api.EAnd, Op: api.OpAnd, Args: list(one, one)}, api.ErrForm},
		{"EParen of a name", paren(a), api.ErrForm},
		{"EParen of an EParen", paren(paren(dots())), api.ErrForm},
		{"EParen of two calls", of(api.EParen, call(a), call(a)), api.ErrForm},
		{"EParen of nothing", of(api.EParen), api.ErrForm},
		{"EParen of a method", paren(method(a, "m")), api.OK},
	} {
		checks(t, c.what, block(result(c.e)), c.want)
		checks(t, c.what+" within others", block(local("x", leaf(api.ENil), table(pair(one, c.e))), leave()), c.want)
		if e := tree.Expr(c.e); e != c.want {
			t.Errorf("Expr of %s: %d, want %d", c.what, int(e), int(c.want))
		}
	}
}

// TestCheckFunctionNames tries Names of functions in all places in which a function has one.
func TestCheckFunctionNames(t *testing.T) {
	path := field(field(name("a"), "b"), "c")
	self := words("self x")
	for _, c := range []struct {
		what string
		s    func(f api.Expr) api.Stat
		self bool
		good string
	}{
		{"a local function", func(f api.Expr) api.Stat { return localFunc("f", f) }, false, "f"},
		{"a variable", func(f api.Expr) api.Stat { return assign(list(name("f")), f) }, false, "- f"},
		{"a variable and self", func(f api.Expr) api.Stat { return assign(list(name("f")), f) }, true, "- f"},
		{"a field", func(f api.Expr) api.Stat { return assign(list(path), f) }, false, "- a.b.c"},
		{"a method", func(f api.Expr) api.Stat { return assign(list(path), f) }, true, "- a.b.c a.b:c"},
		{"a field of a field", func(f api.Expr) api.Stat { return assign(list(field(name("a"), "b")), f) }, true, "- a.b a:b"},
		{"a key that is a keyword", func(f api.Expr) api.Stat { return assign(list(field(name("a"), "end")), f) }, true, "-"},
		{"a key that is no name", func(f api.Expr) api.Stat { return assign(list(field(field(name("a"), "1"), "b")), f) }, true, "-"},
		{"a key that is a variable", func(f api.Expr) api.Stat { return assign(list(index(name("a"), name("b"))), f) }, true, "-"},
		{"a field of a call", func(f api.Expr) api.Stat { return assign(list(field(call(name("a")), "b")), f) }, true, "-"},
		{"a field of a string", func(f api.Expr) api.Stat { return assign(list(field(str("a"), "b")), f) }, true, "-"},
		{"two left sides", func(f api.Expr) api.Stat { return assign(list(name("f"), path), f) }, true, "-"},
		{"two right sides", func(f api.Expr) api.Stat { return assign(list(path), f, num(1, 1)) }, true, "-"},
		{"the second right side", func(f api.Expr) api.Stat { return assign(list(path), num(1, 1), f) }, true, "-"},
		{"a key of the left side", func(f api.Expr) api.Stat { return assign(list(index(name("a"), f)), num(1, 1)) }, true, "-"},
		{"an operand", func(f api.Expr) api.Stat { return assign(list(path), of(api.EAnd, f, f)) }, true, "-"},
		{"an argument", func(f api.Expr) api.Stat { return assign(list(path), call(f)) }, true, "-"},
		{"a declaration", func(f api.Expr) api.Stat { return local("f", f) }, true, "-"},
		{"a function in a local function", func(f api.Expr) api.Stat { return localFunc("f", fn("f", nil, result(f))) }, false, "-"},
	} {
		var params []string
		if c.self {
			params = self
		}
		for _, n := range words("- f a a.b a.b.c a.b:c a:b a:b.c a:b:c .c :c :f .f a.end a:end a.1.b b main self a.b.") {
			want := api.ErrForm
			for _, g := range words(c.good) {
				if g == n {
					want = api.OK
				}
			}
			checks(t, c.what+" with the Name "+n, block(c.s(fn(strings.TrimPrefix(n, "-"), params))), want)
		}
	}
	second := fn("a.b:c", words("x self"))
	checks(t, "self as second parameter", block(assign(list(path), second)), api.ErrForm)
}

// TestCheckLengths tries strings that are as long as permitted, and longer by one byte.
func TestCheckLengths(t *testing.T) {
	for _, c := range []struct {
		what string
		most int
		of   func(s string) api.Stat
	}{
		{"EString", api.MaxString, func(s string) api.Stat { return result(str(s)) }},
		{"EName", api.MaxName, func(s string) api.Stat { return result(name(s)) }},
		{"EMethod", api.MaxName, func(s string) api.Stat { return result(method(name("a"), s)) }},
		{"a variable", api.MaxName, func(s string) api.Stat { return local("a " + s) }},
		{"a parameter", api.MaxName, func(s string) api.Stat { return result(fn("", []string{"a", s})) }},
		{"SGoto", api.MaxName, func(s string) api.Stat { return jump(s) }},
		{"SLabel", api.MaxName, func(s string) api.Stat { return label(s) }},
		{"SFunc", api.MaxName, func(s string) api.Stat { return localFunc(s, fn(s, nil)) }},
	} {
		checks(t, c.what+" as long as permitted", block(c.of(long(c.most))), api.OK)
		checks(t, c.what+" of a byte more", block(c.of(long(c.most+1))), api.ErrLimit)
		checks(t, c.what+" much longer", block(c.of(long(5000))), api.ErrLimit)
	}
	// A Name of MaxString bytes is wrong everywhere, but not too long.
	checks(t, "a Name as long as a string", block(assign(list(name("a")), fn(long(api.MaxString), nil))), api.ErrForm)
	checks(t, "a Name that is too long", block(assign(list(name("a")), fn(long(api.MaxString+1), nil))), api.ErrLimit)
}

// TestCheckErrorsOfOne gives one statement or expression several errors.
func TestCheckErrorsOfOne(t *testing.T) {
	checks(t, "a long name of a wrong kind", block(api.Stat{Kind: 99, Label: long(41)}), api.ErrLimit)
	checks(t, "a long name with a long string", block(result(api.Expr{Kind: api.ENil, Str: long(41)})), api.ErrLimit)
	checks(t, "a string that is no name of a wrong form", block(result(api.Expr{Kind: api.EName, Str: "end", Op: 1})), api.ErrForm)
	checks(t, "a misplaced return that is too long", block(api.Stat{Kind: api.SReturn, Label: long(41)}, leave()), api.ErrLimit)
	checks(t, "a goto with an expression to a keyword", block(api.Stat{Kind: api.SGoto, Label: "end", Right: list(dots())}), api.ErrForm)
	checks(t, "a wrong attribute of a keyword", block(api.Stat{Kind: api.SLocal, Names: []api.Local{{Name: "end", Attr: 9}}}), api.ErrForm)
	checks(t, "a long second name", block(local("end "+long(41))), api.ErrLimit)
	checks(t, "a long name of no attribute", block(api.Stat{Kind: api.SLocal, Names: []api.Local{{Name: long(41), Attr: 9}}}), api.ErrLimit)
	checks(t, "a wrong Name and a long parameter", block(result(fn("f", []string{long(41)}))), api.ErrLimit)
	checks(t, "a wrong Name and a wrong parameter", block(result(fn("f", words("end")))), api.ErrForm)
	checks(t, "a long parameter of a second function",
		block(result(api.Expr{Kind: api.EFunc, Funcs: []api.Func{{Name: "f"}, {Params: []string{long(41)}}}})), api.ErrLimit)
	checks(t, "a long parameter where no function is", block(result(api.Expr{Funcs: []api.Func{{Params: []string{long(41)}}}})), api.ErrLimit)
}

// TestCheckOrder gives several statements and expressions errors: the first one in the order of the text counts.
func TestCheckOrder(t *testing.T) {
	limit, form, noName := str(long(5000)), leaf(0), name("end")
	checks(t, "a statement before its parts", block(local("end", limit)), api.ErrName)
	checks(t, "a part before the next statement", block(local("a", noName), api.Stat{}), api.ErrName)
	checks(t, "an expression before its parts", block(result(method(limit, "end"))), api.ErrName)
	checks(t, "the first argument", block(result(call(name("f"), noName, limit, form))), api.ErrName)
	checks(t, "Left before Right", block(assign(list(noName), limit)), api.ErrName)
	checks(t, "Right before Blocks", block(while(noName, api.Stat{})), api.ErrName)
	checks(t, "Blocks before the condition of a repeat", block(repeat(limit, local("end"))), api.ErrName)
	checks(t, "a condition before its block", block(choice(list(noName), block(api.Stat{}))), api.ErrName)
	checks(t, "a block before the next condition", block(choice(list(leaf(api.ENil), limit), block(local("end")), nil)), api.ErrName)
	checks(t, "the second condition before its block", block(choice(list(dots(), noName), nil, block(api.Stat{}))), api.ErrName)
	checks(t, "the last block", block(choice(list(dots()), nil, block(local("end"))), api.Stat{}), api.ErrName)
	checks(t, "the body of a function", block(result(fn("", nil, local("end")), limit)), api.ErrName)
	checks(t, "a function before its body", block(result(fn("", words("end"), api.Stat{}))), api.ErrName)
	// The EItem that is in a wrong place has the error, and not the call.
	checks(t, "an item behind a wrong name", block(result(call(noName, item(dots())))), api.ErrName)
	checks(t, "a wrong Name behind a wrong name", block(assign(list(noName), fn("f", nil))), api.ErrName)
}

// chain returns a chunk of this depth: a return of operators within one another.
func chain(depth int) []api.Stat {
	e := dots()
	for range depth - 2 {
		e = un(api.OpNeg, e)
	}
	return block(result(e))
}

// wide returns a chunk of this size.
func wide(size int) []api.Stat {
	l := make([]api.Expr, size-1)
	for i := range l {
		l[i] = dots()
	}
	return block(result(l...))
}

func TestCheckLimits(t *testing.T) {
	checks(t, "MaxDepth", chain(api.MaxDepth), api.OK)
	checks(t, "more than MaxDepth", chain(api.MaxDepth+1), api.ErrLimit)
	checks(t, "MaxNodes", wide(api.MaxNodes), api.OK)
	checks(t, "more than MaxNodes", wide(api.MaxNodes+1), api.ErrLimit)
	checks(t, "MaxNodes statements", make([]api.Stat, api.MaxNodes), api.ErrForm)
	checks(t, "more than MaxNodes statements", make([]api.Stat, api.MaxNodes+1), api.ErrLimit)
	b := block(api.Stat{})
	for range api.MaxDepth - 1 {
		b = block(do(b...))
	}
	checks(t, "MaxDepth blocks", b, api.ErrForm)
	checks(t, "more than MaxDepth blocks", block(do(b...)), api.ErrLimit)
	// The limits come first, and count also what is not well-formed.
	wrong := chain(api.MaxDepth + 1)
	wrong[0].Label = "l"
	checks(t, "a wrong statement that is too deep", wrong, api.ErrLimit)
	deep := chain(api.MaxDepth + 1)[0].Right
	checks(t, "a wrong place that is too deep", block(api.Stat{Kind: api.SBreak, Left: deep}), api.ErrLimit)
	checks(t, "a wrong function that is too deep", block(result(api.Expr{Kind: api.ENil, Funcs: []api.Func{{Body: chain(api.MaxDepth - 1)}}})), api.ErrLimit)
	checks(t, "a wrong function that is not too deep", block(result(api.Expr{Kind: api.ENil, Funcs: []api.Func{{Body: chain(api.MaxDepth - 2)}}})), api.ErrForm)
}

func TestExpr(t *testing.T) {
	for _, c := range []struct {
		what string
		b    []api.Stat
		want api.Errno
	}{
		{"MaxDepth", chain(api.MaxDepth), api.OK},
		{"more than MaxDepth", chain(api.MaxDepth + 1), api.ErrLimit},
		{"MaxNodes", block(result(table(items(api.MaxNodes/2 - 1)...))), api.OK},
		{"MaxNodes and more", block(result(table(items(api.MaxNodes / 2)...))), api.ErrLimit},
		{"a function in a function", block(result(fn("", nil, result(fn("", nil))))), api.OK},
	} {
		e := c.b[0].Right[0]
		if got := tree.Expr(e); got != c.want || got != tree.Check(c.b) {
			t.Errorf("Expr of %s: %d, want %d", c.what, int(got), int(c.want))
		}
	}
}

// items returns n items of a table.
func items(n int) []api.Expr {
	l := make([]api.Expr, n)
	for i := range l {
		l[i] = item(dots())
	}
	return l
}

// TestCheckSharedParts gives Check a tree that is small in memory, but has too many parts to visit them all.
func TestCheckSharedParts(t *testing.T) {
	e := dots()
	for range 60 {
		e = bin(api.OpAdd, e, e)
	}
	b := block()
	for range 60 {
		b = block(do(b...), do(b...))
	}
	checks(t, "shared expressions", block(result(e)), api.ErrLimit)
	checks(t, "shared blocks", b, api.ErrLimit)
}
