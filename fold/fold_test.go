package fold_test

import (
	"strings"
	"testing"

	"scripting/api"
	"scripting/fold"
	"scripting/parser"
	"scripting/printer"
	"scripting/tree"
)

// readExpr returns the expression of a text.
func readExpr(t *testing.T, s string) api.Expr {
	t.Helper()
	e, line, f := parser.Expr(s)
	if f != api.OK {
		t.Fatalf("Expr(%s): line %d, error %d", s, line, int(f))
	}
	return e
}

// readChunk returns the chunk of a text.
func readChunk(t *testing.T, s string) []api.Stat {
	t.Helper()
	b, line, f := parser.Chunk(s)
	if f != api.OK {
		t.Fatalf("Chunk(%s): line %d, error %d", s, line, int(f))
	}
	return b
}

// Values of the tests.
func num(p, q int) api.Value  { return api.Value{Kind: api.Number, Num: api.Num{P: p, Q: q}} }
func str(s string) api.Value  { return api.Value{Kind: api.String, Str: s} }
func boolean(n int) api.Value { return api.Value{Kind: api.Bool, Ref: n} }

// TestConstants covers P10.1 for what a text can contain.
func TestConstants(t *testing.T) {
	long, half := strings.Repeat("x", api.MaxString), strings.Repeat("y", api.MaxString/2)
	for s, want := range map[string]api.Value{
		"nil": {}, "true": boolean(1), "false": boolean(0), "12": num(12, 1), "1.25": num(5, 4), "0x1F": num(31, 1), "'a'": str("a"), "''": str(""), "'" + long + "'": str(long),
		"not nil": boolean(1), "not false": boolean(1), "not true": boolean(0), "not 0": boolean(0), "not ''": boolean(0), "not not nil": boolean(0),
		"-1": num(-1, 1), "-0": num(0, 1), "- -1.5": num(3, 2), "-2147483647": num(-api.MaxNum, 1), "~0": num(-1, 1), "~5": num(-6, 1), "~-1": num(0, 1), "#''": num(0, 1), "#'abc'": num(3, 1), "#'" + long + "'": num(api.MaxString, 1),
		"1 / 3": num(1, 3), "1 + 2": num(3, 1), "3 - 5": num(-2, 1), "0.5 * 3": num(3, 2), "7 // 2": num(3, 1), "7 // -2": num(-4, 1), "7 % -2": num(-1, 1), "2 ^ 10": num(1024, 1), "2 ^ -2": num(1, 4), "0 ^ 0": num(1, 1), "-2 ^ 2": num(-4, 1),
		"6 & 3": num(2, 1), "6 | 3": num(7, 1), "6 ~ 3": num(5, 1), "1 << 4": num(16, 1), "-1 >> 28": num(15, 1), "1 << 30": num(1<<30, 1), "2147483647 + 0": num(api.MaxNum, 1),
		"'a' .. 1": str("a1"), "1 .. 2": str("12"), "1 / 3 .. ''": str("1/3"), "-1.5 .. 'x'": str("-3/2x"), "'' .. ''": str(""), "'a' .. 'b' .. 'c'": str("abc"), "'" + half + "' .. '" + half + "'": str(half + half),
		"1 == 1": boolean(1), "1 == 2": boolean(0), "1 == '1'": boolean(0), "nil == false": boolean(0), "nil == nil": boolean(1), "'a' == 'a'": boolean(1), "true == true": boolean(1), "0.5 == 1 / 2": boolean(1), "0 == -0": boolean(1), "true == 1": boolean(0),
		"1 ~= 1": boolean(0), "1 ~= '1'": boolean(1), "nil ~= nil": boolean(0), "false ~= nil": boolean(1), "'a' ~= 'b'": boolean(1),
		"1 < 2": boolean(1), "2 < 2": boolean(0), "2 <= 2": boolean(1), "3 <= 2": boolean(0), "3 > 2": boolean(1), "2 > 2": boolean(0), "2 >= 2": boolean(1), "1 >= 2": boolean(0), "1 / 3 < 0.5": boolean(1), "-1 < 0": boolean(1),
		"'a' < 'b'": boolean(1), "'a' < 'a'": boolean(0), "'' < 'a'": boolean(1), "'Z' < 'a'": boolean(1), "'\\255' > 'z'": boolean(1), "'a' <= 'a'": boolean(1), "'ab' >= 'b'": boolean(0), "'10' < '9'": boolean(1), "'b' > 'a'": boolean(1), "'a' >= 'a'": boolean(1),
		"nil and 1": {}, "false and 1": boolean(0), "1 and 2": num(2, 1), "0 and nil": {}, "'' and false": boolean(0), "nil or 1": num(1, 1), "false or nil": {}, "1 or 2": num(1, 1), "true or nil": boolean(1), "'' or 1": str(""),
		"nil and ...": {}, "nil and {}": {}, "false and {1, 2}": boolean(0), "1 or ...": num(1, 1), "nil and function() end": {}, "1 or function(a) local b end": num(1, 1), "nil and #nil": {}, "1 or 1 / 0": num(1, 1),
		"false and (...)": boolean(0), "'x' or {...}": str("x"), "1 or function() return 1, {2} end": num(1, 1), "nil and function(...) ::l:: goto l end": {}, "false or nil and {}": {},
	} {
		if v, ok := fold.Constant(readExpr(t, s)); !ok || v != want {
			t.Errorf("Constant(%.60s): %.60v, %t; want %.60v", s, v, ok, want)
		}
	}
	for _, s := range []string{
		"x", "...", "f()", "x:m()", "x.y", "function() end", "{}", "{1}", "(...)", "(f())", "not x", "-x", "#x", "~x", "-'1'", "-nil", "-true", "#1", "#nil", "#{}", "~'1'", "~0.5", "~true", "~2147483647", "not {}", "not ...", "not function() end",
		"1 / 0", "1 // 0", "1 % 0", "0 ^ -1", "2 ^ 31", "2 ^ 0.5", "2 ^ 65", "2147483647 + 1", "-2147483647 - 1", "65536 * 65536", "0.000000001 * 0.000000001", "2147483647 // 0.5", "0.5 & 1", "1 | 0.5", "1 << 31", "1 << 0.5", "'1' & 1",
		"'1' + 1", "1 + '1'", "'1' * '2'", "nil + 1", "1 - true", "nil .. 'a'", "'a' .. true", "true .. 1", "{} .. 'a'", "'" + half + "' .. '" + half + "y'", "1 < '2'", "'1' < 2", "nil < nil", "true <= true", "nil > 1", "{} == {}", "x == x", "1 == x", "x ~= nil",
		"nil and x", "nil and f()", "false and (x)", "1 or x", "1 or {x}", "1 or function() return x end", "nil and function() x = 1 end", "nil and function() if 1 then f() end end", "true and x", "nil or x", "x and 1", "x or nil", "... and 1", "{} or 1", "true and {}", "nil or ...", "true and function() end", "1 / 0 and 2", "nil and {k = x}", "nil and {[x] = 1}", "nil and function() local function g() end g() end", "1 or function() for a = 1, 2 do local b = a end end", "nil and x.y", "1 + (x and 2)", "(1 and x) + 2", "nil and function() return function() return x end end",
	} {
		if v, ok := fold.Constant(readExpr(t, s)); ok || v != (api.Value{}) {
			t.Errorf("Constant(%.60s): %.60v, %t", s, v, ok)
		}
	}
}

// leafOf returns the expression without parts for a value, which may be one that no text has.
func leafOf(v api.Value) api.Expr {
	switch v.Kind {
	case api.Number:
		return api.Expr{Kind: api.ENumber, Num: v.Num}
	case api.String:
		return api.Expr{Kind: api.EString, Str: v.Str}
	case api.Bool:
		return api.Expr{Kind: api.EFalse - v.Ref}
	}
	return api.Expr{Kind: api.ENil}
}

// TestConstantsOfOtherTrees covers P10.1 for trees that are not well-formed.
func TestConstantsOfOtherTrees(t *testing.T) {
	name, one := api.Expr{Kind: api.EName, Str: "x"}, leafOf(num(1, 1))
	with := func(kind, op int, args ...api.Expr) api.Expr { return api.Expr{Kind: kind, Op: op, Args: args} }
	body := func(s api.Stat) []api.Func { return []api.Func{{Body: []api.Stat{s}}} }
	long := strings.Repeat("x", api.MaxString+1)
	for i, x := range []struct {
		e    api.Expr
		want api.Value
		ok   bool
	}{
		{leafOf(num(-7, 3)), num(-7, 3), true}, {leafOf(num(2, 4)), num(0, 0), false}, {leafOf(num(0, 0)), num(0, 0), false}, {leafOf(num(1, -1)), num(0, 0), false}, {leafOf(num(api.MaxNum+1, 1)), num(0, 0), false},
		{leafOf(str(long)), str(""), false}, {leafOf(str(long[1:])), str(long[1:]), true}, {with(api.EUnary, api.OpLen, leafOf(str(long))), num(0, 0), false}, {with(api.EUnary, api.OpNot, leafOf(str(long))), num(0, 0), false},
		{api.Expr{Kind: api.ENil, Op: 3, Line: -2, Num: api.Num{P: 3, Q: 4}, Str: "x"}, api.Value{}, true}, {api.Expr{Kind: api.ETrue, Num: api.Num{P: 1, Q: 0}}, boolean(1), true}, {api.Expr{Kind: api.EString, Str: "a", Num: api.Num{P: 1, Q: 1}}, str("a"), true},
		{with(api.EParen, 0, one), num(1, 1), true}, {with(api.EParen, 7, with(api.EParen, 0, one)), num(1, 1), true}, {with(api.EParen, 0), num(0, 0), false}, {with(api.EParen, 0, one, one), num(0, 0), false}, {with(api.EParen, 0, name), num(0, 0), false},
		{with(api.EUnary, api.OpNeg), num(0, 0), false}, {with(api.EUnary, api.OpNeg, one, one), num(0, 0), false}, {with(api.EUnary, api.OpSub, one), num(0, 0), false}, {with(api.EUnary, 0, one), num(0, 0), false}, {with(api.EUnary, api.OpBnot+1, one), num(0, 0), false}, {with(api.EUnary, api.OpEq, one), num(0, 0), false},
		{with(api.EBinary, api.OpAdd, one), num(0, 0), false}, {with(api.EBinary, api.OpAdd, one, one, one), num(0, 0), false}, {with(api.EBinary, api.OpBnot, one, one), num(0, 0), false}, {with(api.EBinary, api.OpNot, one, one), num(0, 0), false}, {with(api.EBinary, api.OpNeg, one, one), num(0, 0), false},
		{with(api.EBinary, 0, one, one), num(0, 0), false}, {with(api.EBinary, -1, one, one), num(0, 0), false}, {with(api.EBinary, 99, one, one), num(0, 0), false}, {with(api.EBinary, -1<<63, one, one), num(0, 0), false},
		{with(api.EAnd, 0, one), num(0, 0), false}, {with(api.EAnd, 0, one, one, one), num(0, 0), false}, {with(api.EOr, 0), num(0, 0), false}, {with(api.EOr, 0, one, one, one), num(0, 0), false}, {with(api.EOr, 5, one, one), num(1, 1), true},
		{with(api.EItem, 0, one), num(0, 0), false}, {with(0, 0, one), num(0, 0), false}, {with(-1, 0), num(0, 0), false}, {with(99, 0), num(0, 0), false},
		{with(api.ENil, 0, one), api.Value{}, true}, {with(api.ENil, 0, name), api.Value{}, false}, {with(api.ETrue, 0, with(api.ETable, 0)), boolean(1), true}, {with(api.ENil, 0, with(api.ETable, 0, with(api.EItem, 0, name))), api.Value{}, false},
		{api.Expr{Kind: api.EName, Str: "x"}, api.Value{}, false}, {api.Expr{Kind: api.EName}, api.Value{}, false},
		{api.Expr{Kind: api.ETrue, Funcs: body(api.Stat{})}, boolean(1), true}, {api.Expr{Kind: api.ETrue, Funcs: body(api.Stat{Right: []api.Expr{one}})}, boolean(1), true},
		{api.Expr{Kind: api.ETrue, Funcs: body(api.Stat{Right: []api.Expr{name}})}, boolean(0), false}, {api.Expr{Kind: api.ETrue, Funcs: body(api.Stat{Left: []api.Expr{one, name}})}, boolean(0), false},
		{api.Expr{Kind: api.ETrue, Funcs: body(api.Stat{Blocks: [][]api.Stat{nil, {{Right: []api.Expr{name}}}}})}, boolean(0), false},
		{api.Expr{Kind: api.ETrue, Funcs: []api.Func{{}, {Name: "f", Params: []string{"x"}}}}, boolean(1), true}, {api.Expr{Kind: api.ETrue, Funcs: []api.Func{{}, {Body: []api.Stat{{Names: []api.Local{{Name: "x"}}, Label: "x"}}}}}, boolean(1), true},
		{api.Expr{Kind: api.EUnary, Op: api.OpNot, Args: []api.Expr{one}, Funcs: body(api.Stat{})}, boolean(0), true}, {api.Expr{Kind: api.EUnary, Op: api.OpNot, Args: []api.Expr{one}, Funcs: body(api.Stat{Right: []api.Expr{name}})}, boolean(0), false},
		{api.Expr{Kind: api.EAnd, Args: []api.Expr{one, one}, Funcs: body(api.Stat{})}, num(1, 1), true}, {api.Expr{Kind: api.EParen, Args: []api.Expr{{Kind: api.ETrue, Funcs: body(api.Stat{Right: []api.Expr{name}})}}}, num(0, 0), false},
	} {
		if !x.ok {
			x.want = api.Value{}
		}
		if v, ok := fold.Constant(x.e); v != x.want || ok != x.ok {
			t.Errorf("case %d: %.60v, %t; want %.60v, %t", i, v, ok, x.want, x.ok)
		}
	}
}

// TestExpressions covers P10.2 by the texts of the results.
func TestExpressions(t *testing.T) {
	for s, want := range map[string]string{
		"nil": "nil", "x": "x", "12": "12", "1.5": "1.5", "'a'": "\"a\"", "...": "...", "f()": "f()", "{}": "{}", "(...)": "(...)", "(f())": "(f())",
		"1 + 2": "3", "x + 2 * 3": "x + 6", "2 / 6": "1 / 3", "3 - 5": "-2", "1 - 4 / 3": "-(1 / 3)", "1 / 2": "0.5", "-1 / 8": "-0.125", "1 / 1024": "1 / 1024", "-1 / 1024": "-(1 / 1024)", "1 / 512": "0.001953125", "7 / 7": "1", "-7": "-7", "- -7": "7", "-0": "0", "0 - 0": "0", "-(1 / 3)": "-(1 / 3)", "-1 / 3": "-(1 / 3)",
		"not nil": "true", "not 1": "false", "nil == nil": "true", "nil and 1": "nil", "'a' .. 1": "\"a1\"", "#'abc'": "3", "~0": "-1", "1 < 2": "true", "2 < 1": "false", "1 / 0": "1 / 0", "1 + 1 / 0": "1 + 1 / 0", "1 + 1 + 1 / 0": "2 + 1 / 0", "'1' + 1": "\"1\" + 1", "-'1'": "-\"1\"", "1 + 2 + x": "3 + x", "x + 1 + 2": "x + 1 + 2",
		"true and x": "x", "1 and x": "x", "'' and x": "x", "nil or x": "x", "false or x": "x", "nil and x": "nil and x", "false and x": "false and x", "1 or x": "1 or x", "x and 1 + 1": "x and 2", "x or true and y": "x or y", "x and nil or y": "x and nil or y", "(nil or x) and (1 and y)": "x and y",
		"true and f()": "(f())", "true and x:m()": "(x:m())", "true and ...": "(...)", "nil or f()": "(f())", "false or ...": "(...)", "nil or x:m()": "(x:m())", "true and (f())": "(f())", "true and (true and f())": "(f())", "nil or (1 and ...)": "(...)", "nil and f()": "nil and f()", "1 or f()": "1 or f()",
		"true and {}": "{}", "true and {1 + 1}": "{2}", "nil or function() return 1 + 1 end": "function()\n  return 2\nend", "1 or function() return x end": "1 or function()\n  return x\nend", "1 or function() return 1 end": "1", "nil and {}": "nil", "nil and ...": "nil", "nil or 1 / 0": "1 / 0", "1 + 1 and 1 / 0": "1 / 0", "2 < 1 or 1 / 0": "1 / 0", "2 < 1 and 1 / 0": "false",
		"{1 + 1, [2 * 2] = g(3 - 3), k = 'a' .. 'b', true and f()}": "{2, [4] = g(0), k = \"ab\", (f())}", "f(1 + 1, true and f())": "f(2, (f()))", "(true and f)(1)": "f(1)", "('a' .. 'b'):m(#'a')": "(\"ab\"):m(1)", "(1 + 1)[2 + 2]": "(2)[4]", "(true and ...)[1]": "(...)[1]", "(nil or f())(1)": "(f())(1)",
		"function(a, ...) local b <close> = 1 + 1 return not nil end": "function(a, ...)\n  local b <close> = 2\n  return true\nend",
		"(2 ^ 31) ^ 0": "(2 ^ 31) ^ 0", "65536 * 65536 / 65536": "65536 * 65536 / 65536", "2147483647 + 1": "2147483647 + 1", "'a' < 1": "\"a\" < 1", "not (1 / 0)": "not (1 / 0)",
	} {
		e := readExpr(t, s)
		got, f := printer.Expr(fold.Expr(e))
		if got != want || f != api.OK {
			t.Errorf("Expr(%s): %s, error %d; want %s", s, got, int(f), want)
		}
		agreesExpr(t, e)
	}
}

// TestLines covers the lines of P10.2: a literal has that of the expression whose value it is, and so have its
// parts; what takes the place of "and" or "or" has its own line, and a bracket around it that of the operator.
func TestLines(t *testing.T) {
	for s, want := range map[string]api.Expr{
		"1\n+\n2":                 {Kind: api.ENumber, Line: 2, Num: api.Num{P: 3, Q: 1}},
		"not\n\n1":                {Kind: api.EFalse, Line: 1},
		"'a'\n..\n'b'":            {Kind: api.EString, Line: 2, Str: "ab"},
		"nil\n\nand\n1":           {Kind: api.ENil, Line: 3},
		"nil\nor\n\n1":            {Kind: api.ENumber, Line: 2, Num: api.Num{P: 1, Q: 1}},
		"1\n/\n3":                 wantLiteral(num(1, 3), 2),
		"\n-\n(\n1\n/\n3)":        wantLiteral(num(-1, 3), 2),
		"1\n-\n3":                 wantLiteral(num(-2, 1), 2),
		"true\nand\n\nx":          {Kind: api.EName, Line: 4, Str: "x"},
		"nil\nor\n\n...":          {Kind: api.EParen, Line: 2, Args: []api.Expr{{Kind: api.EVararg, Line: 4}}},
		"1\nand\n\n(\n...)":       {Kind: api.EParen, Line: 4, Args: []api.Expr{{Kind: api.EVararg, Line: 5}}},
		"1\nand\n(1\nand\n\n...)": {Kind: api.EParen, Line: 4, Args: []api.Expr{{Kind: api.EVararg, Line: 6}}},
	} {
		if got := fold.Expr(readExpr(t, s)); !tree.SameExpr(got, want) {
			t.Errorf("Expr(%q): %+v; want %+v", s, got, want)
		}
	}
}

// TestExpressionsOfOtherTrees covers P10.2 for trees that are not well-formed: the fields that no rule mentions stay
// as they are.
func TestExpressionsOfOtherTrees(t *testing.T) {
	one, name := leafOf(num(1, 1)), api.Expr{Kind: api.EName, Str: "x"}
	sum := api.Expr{Kind: api.EBinary, Op: api.OpAdd, Line: 5, Num: api.Num{P: 7, Q: 0}, Str: "s", Args: []api.Expr{one, one}}
	two := api.Expr{Kind: api.ENumber, Line: 5, Num: api.Num{P: 2, Q: 1}}
	fn := []api.Func{{Name: "f", Params: []string{"a"}, Vararg: true, Line: -3, Body: []api.Stat{{Kind: 99, Left: []api.Expr{sum}}}}}
	folded := []api.Func{{Name: "f", Params: []string{"a"}, Vararg: true, Line: -3, Body: []api.Stat{{Kind: 99, Left: []api.Expr{two}}}}}
	for i, x := range []struct{ e, want api.Expr }{
		{sum, two},
		{api.Expr{Kind: 77, Op: 3, Line: -1, Num: api.Num{P: 2, Q: 4}, Str: "q", Args: []api.Expr{sum, name}, Funcs: fn}, api.Expr{Kind: 77, Op: 3, Line: -1, Num: api.Num{P: 2, Q: 4}, Str: "q", Args: []api.Expr{two, name}, Funcs: folded}},
		{api.Expr{Kind: api.ENil, Op: 3, Str: "q", Args: []api.Expr{sum}, Funcs: fn}, api.Expr{Kind: api.ENil, Op: 3, Str: "q", Args: []api.Expr{two}, Funcs: folded}},
		{api.Expr{Kind: api.EParen, Line: 4, Args: []api.Expr{sum}, Funcs: fn}, api.Expr{Kind: api.ENumber, Line: 4, Num: api.Num{P: 2, Q: 1}}},
		{api.Expr{Kind: api.EParen, Args: []api.Expr{sum, name}}, api.Expr{Kind: api.EParen, Args: []api.Expr{two, name}}},
		{api.Expr{Kind: api.EAnd, Args: []api.Expr{one, name}, Funcs: fn}, api.Expr{Kind: api.EAnd, Args: []api.Expr{one, name}, Funcs: folded}},
		{api.Expr{Kind: api.EAnd, Args: []api.Expr{one, name, sum}}, api.Expr{Kind: api.EAnd, Args: []api.Expr{one, name, two}}},
		{api.Expr{Kind: api.EAnd, Args: []api.Expr{sum}}, api.Expr{Kind: api.EAnd, Args: []api.Expr{two}}},
		{api.Expr{Kind: api.EOr, Args: []api.Expr{{Kind: api.ENil, Args: []api.Expr{name}}, sum}}, api.Expr{Kind: api.EOr, Args: []api.Expr{{Kind: api.ENil, Args: []api.Expr{name}}, two}}},
		{api.Expr{Kind: api.EOr, Op: 9, Line: 2, Args: []api.Expr{{Kind: api.ENil, Funcs: []api.Func{{}}}, {Kind: api.EMethod, Line: 8, Num: api.Num{P: 1, Q: 0}}}}, api.Expr{Kind: api.EParen, Line: 2, Args: []api.Expr{{Kind: api.EMethod, Line: 8, Num: api.Num{P: 1, Q: 0}}}}},
		{leafOf(num(-1, 3)), leafOf(num(-1, 3))},
		{leafOf(num(0, 0)), leafOf(num(0, 0))},
		{api.Expr{}, api.Expr{}},
	} {
		if got := fold.Expr(x.e); !tree.SameExpr(got, x.want) {
			t.Errorf("case %d: %+v; want %+v", i, got, x.want)
		}
		agreesExpr(t, x.e)
	}
}

// TestChunks covers P10.3 by the texts of the results.
func TestChunks(t *testing.T) {
	for s, want := range map[string]string{
		"": "", "local x = (2 + 3) * y, not nil, #'abc'": "local x = 5 * y, true, 3\n",
		"if 1 < 2 then print(2 ^ 10) end":                             "if true then\n  print(1024)\nend\n",
		"if nil then x = 1 + 1 elseif not 1 then else y = -1 / 3 end": "if nil then\n  x = 2\nelseif false then\nelse\n  y = -(1 / 3)\nend\n",
		"while false do f(1 + 1) end":                                 "while false do\n  f(2)\nend\n",
		"repeat local a <const> = 1 + 1 until 1 == 2":                 "repeat\n  local a <const> = 2\nuntil false\n",
		"for i = 1 + 1, 2 * 2, -(1 + 1) do break end":                 "for i = 2, 4, -2 do\n  break\nend\n",
		"for k, v in f(1 + 1), true and f() do goto l ::l:: end":      "for k, v in f(2), (f()) do\n  goto l\n  ::l::\nend\n",
		"x[1 + 1], y['a' .. 'b'] = 1 + 2, nil or f()":                 "x[2], y.ab = 3, (f())\n",
		"local function f(...) return ..., 1 + 1 end":                 "local function f(...)\n  return ..., 2\nend\n",
		"function a.b:c(d) do return 2 * 2 end end":                   "function a.b:c(d)\n  do\n    return 4\n  end\nend\n",
		"f(1 + 1) ('a' .. 'b'):m(2 > 1)":                              "f(2)(\"ab\"):m(true)\n",
		"return true and ..., 1 and 2 + 3":                            "return (...), 5\n",
		"a = true and function() return 1 + 1 end":                    "a = function()\n  return 2\nend\n",
	} {
		b := readChunk(t, s)
		got, f := printer.Chunk(fold.Chunk(b))
		if got != want || f != api.OK {
			t.Errorf("Chunk(%s): %s, error %d; want %s", s, got, int(f), want)
		}
		agreesChunk(t, b)
	}
}
