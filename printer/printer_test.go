package printer_test

import (
	"strconv"
	"strings"
	"testing"

	"scripting/api"
	"scripting/parser"
	"scripting/printer"
	"scripting/tree"
)

// read returns the chunk of a text.
func read(t *testing.T, s string) []api.Stat {
	t.Helper()
	b, line, e := parser.Chunk(s)
	if e != api.OK {
		t.Fatalf("Chunk(%.200q): line %d, error %d", s, line, int(e))
	}
	return b
}

// readExpr returns the expression of a text.
func readExpr(t *testing.T, s string) api.Expr {
	t.Helper()
	x, line, e := parser.Expr(s)
	if e != api.OK {
		t.Fatalf("Expr(%.200q): line %d, error %d", s, line, int(e))
	}
	return x
}

// TestChunk has statements of all kinds (P7.1).
func TestChunk(t *testing.T) {
	for _, x := range [][]string{
		{""},
		{"; ; -- nothing"},
		{"local a", "local a"},
		{"local a<const> , b=1 if a then return f(b) end", "local a <const>, b = 1", "if a then", "  return f(b)", "end"},
		{"local a<close>, const<const>, close = 1 , ...", "local a <close>, const <const>, close = 1, ..."},
		{"local function f() end", "local function f()", "end"},
		{"local function f(a,b,...) local function g(...) return end end", "local function f(a, b, ...)", "  local function g(...)", "    return", "  end", "end"},
		{"a=1", "a = 1"},
		{"a , b.c , d['e f'] , g().h = 1 , 2", `a, b.c, d["e f"], g().h = 1, 2`},
		{"f=function(a) end", "f = function(a)", "end"},
		{"f.g = function() return 1 end", "f.g = function()", "  return 1", "end"},
		{"f , g = function() end , function() end", "f, g = function()", "end, function()", "end"},
		{"function f() end", "function f()", "end"},
		{"function f.g.h(a) f() end", "function f.g.h(a)", "  f()", "end"},
		{"function f.g(self) end function f:g() end function f.g:h(self, ...) end", "function f.g(self)", "end", "function f:g()", "end", "function f.g:h(self, ...)", "end"},
		{"f() f'x' f{} f{1} a.b:c'' (f)()", `f()`, `f("x")`, `f({})`, `f({1})`, `a.b:c("")(f)()`},
		{"do end do do a() end b() end", "do", "end", "do", "  do", "    a()", "  end", "  b()", "end"},
		{"while a do end while a and b do break end", "while a do", "end", "while a and b do", "  break", "end"},
		{"repeat until a repeat local b until b == 1", "repeat", "until a", "repeat", "  local b", "until b == 1"},
		{"if a then end", "if a then", "end"},
		{"if a then else end", "if a then", "else", "end"},
		{"if a then b() elseif c then d() elseif e then else g() end", "if a then", "  b()", "elseif c then", "  d()", "elseif e then", "else", "  g()", "end"},
		{"if a then else if b then end end", "if a then", "else", "  if b then", "  end", "end"},
		{"for i=1 , 2 do end for i=a,b,-1 do f(i) end", "for i = 1, 2 do", "end", "for i = a, b, -1 do", "  f(i)", "end"},
		{"for k in f do end for k , v , w in f , g , h do f(k) end", "for k in f do", "end", "for k, v, w in f, g, h do", "  f(k)", "end"},
		{"return;", "return"},
		{"return a , (...) , nil;", "return a, (...), nil"},
		{"while a do break ; goto b ; ::b:: end", "while a do", "  break", "  goto b", "  ::b::", "end"},
		{"while function() return function() f() end end do f(function() g{h=function() end} end) end", "while function()", "  return function()", "    f()", "  end", "end do", "  f(function()", "    g({h = function()", "    end})", "  end)", "end"},
		{"if a then repeat until function() f() end end", "if a then", "  repeat", "  until function()", "    f()", "  end", "end"},
		// A bracket would continue the statement before.
		{"(function() end)() a.b.c = {1; x=2, ['y z']=3}", ";(function()", "end)()", `a.b.c = {1, x = 2, ["y z"] = 3}`},
		{"(f()).x = 1 ;('x'):y() ;('x').y, z = 1 do ;(...)() ;({})[1].x:y().z = 2 end z, ('x').y = 1", ";(f()).x = 1", `;("x"):y()`, `;("x").y, z = 1`, "do", "  ;(...)()", "  ;({})[1].x:y().z = 2", "end", `z, ("x").y = 1`},
		{"a = (f()) b(('x').y) c[('x')] = 1 return (f())", "a = (f())", `b(("x").y)`, `c.x = 1`, "return (f())"},
	} {
		want := ""
		for _, line := range x[1:] {
			want += line + "\n"
		}
		if got := writes(t, read(t, x[0])); got != want {
			t.Errorf("Chunk(%s): %s; want %s", x[0], got, want)
		}
	}
}

// TestExpr has expressions of all kinds (P7.2).
func TestExpr(t *testing.T) {
	for _, x := range [][2]string{
		{"nil", "nil"}, {"true", "true"}, {"false", "false"}, {"...", "..."}, {"(...)", "(...)"}, {"((a))", "a"},
		{"'a\\n\\9\\\\\\'\"\\0\\200'", `"a\n\t\\'\"\000\200"`}, {"_a1", "_a1"},
		{"a.b", "a.b"}, {"a['b']", "a.b"}, {"a['end']", `a["end"]`}, {"a[b]", "a[b]"}, {"a['']", `a[""]`}, {"a['1b']", `a["1b"]`}, {"a[1].b[c.d]", "a[1].b[c.d]"},
		{"f()", "f()"}, {"f ( a , ... )", "f(a, ...)"}, {"f 'x' {} :g {1}", `f("x")({}):g({1})`}, {"(f())()", "(f())()"}, {"a:b()", "a:b()"}, {"(...):b(1,2)", "(...):b(1, 2)"},
		{"function() end", "function()\nend"}, {"function(a) return a end", "function(a)\n  return a\nend"}, {"function(a,...) end", "function(a, ...)\nend"}, {"function(...) end", "function(...)\nend"},
		{"{}", "{}"}, {"{1;2,}", "{1, 2}"}, {"{a=1,['b']=2;['c d']=3,[4]=5,[f()]=6,(...)}", `{a = 1, b = 2, ["c d"] = 3, [4] = 5, [f()] = 6, (...)}`}, {"{['end']=1,[a]=a,a}", `{["end"] = 1, [a] = a, a}`}, {"{{{}}}", "{{{}}}"},
		{"-a", "-a"}, {"not a", "not a"}, {"#a", "#a"}, {"~a", "~a"}, {"not not a", "not not a"}, {"~~a", "~~a"}, {"##a", "##a"}, {"-not -#~a", "-not -#~a"},
		{"-(-a)", "-(-a)"}, {"-(-(-a))", "-(-(-a))"}, {"-(-a)^2", "-(-a) ^ 2"}, {"-(-a^2)", "-(-a ^ 2)"}, {"-~-a", "-~-a"}, {"-((-a).b)", "-(-a).b"}, {"- -1", "-(-1)"},
		{"-a^b", "-a ^ b"}, {"(-a)^b", "(-a) ^ b"}, {"a^-b", "a ^ (-b)"}, {"a^-b^c", "a ^ (-b ^ c)"}, {"(a^b)^c", "(a ^ b) ^ c"}, {"a^b^c", "a ^ b ^ c"}, {"a^#b", "a ^ (#b)"},
		{"a..b..c", "a .. b .. c"}, {"(a..b)..c", "(a .. b) .. c"}, {"a..(b+c)", "a .. b + c"}, {"(a<<b)..c", "(a << b) .. c"}, {"1 ..2", "1 .. 2"},
		{"a-b-c", "a - b - c"}, {"a-(b-c)", "a - (b - c)"}, {"a-(b-c)*-(-d)", "a - (b - c) * -(-d)"}, {"(2+3*4)", "2 + 3 * 4"}, {"a*(b*c)/d//e%f", "a * (b * c) / d // e % f"},
		{"a<(b<c)", "a < (b < c)"}, {"a==b~=c<d<=e>f>=g", "a == b ~= c < d <= e > f >= g"}, {"a|b~c&d<<e>>f", "a | b ~ c & d << e >> f"}, {"((((a|b)~c)&d)<<e)", "(((a | b) ~ c) & d) << e"},
		{"a or b and c", "a or b and c"}, {"(a or b) and c", "(a or b) and c"}, {"a and (b and c)", "a and (b and c)"}, {"a or (b or c)", "a or (b or c)"}, {"not (a and b)", "not (a and b)"}, {"(not a) and b", "not a and b"},
		{"('x'):f(1)[2]", `("x"):f(1)[2]`}, {"(1).x", "(1).x"}, {"({}).x", "({}).x"}, {"(nil)()", "(nil)()"}, {"(true).x", "(true).x"}, {"(false):x()", "(false):x()"}, {"(function() end)()", "(function()\nend)()"}, {"(-a)()", "(-a)()"}, {"(a+b).c", "(a + b).c"}, {"(a and b)[1]", "(a and b)[1]"}, {"(a or b):c()", "(a or b):c()"},
	} {
		if got := writesExpr(t, readExpr(t, x[0])); got != x[1] {
			t.Errorf("Expr(%s): %s; want %s", x[0], got, x[1])
		}
	}
}

// TestNumbers has numbers that are no integers, or large.
func TestNumbers(t *testing.T) {
	for _, x := range []struct {
		p, q int
		want string
	}{
		{0, 1, "0"}, {1, 1, "1"}, {10, 1, "10"}, {1<<31 - 1, 1, "2147483647"}, {1, 2, "0.5"}, {5, 4, "1.25"}, {3, 8, "0.375"}, {1, 10, "0.1"}, {1, 5, "0.2"}, {1, 100, "0.01"}, {21, 20, "1.05"},
		{1, 512, "0.001953125"}, {1, 1953125, "0.000000512"}, {1, 1000000000, "0.000000001"}, {1<<31 - 1, 1000000000, "2.147483647"}, {1<<31 - 1, 512, "4194303.998046875"}, {1<<31 - 1, 2, "1073741823.5"},
	} {
		if got := writesExpr(t, api.Expr{Kind: api.ENumber, Num: api.Num{P: x.p, Q: x.q}}); got != x.want {
			t.Errorf("%d/%d: %s; want %s", x.p, x.q, got, x.want)
		}
	}
	for q := 1; q <= 1000000000; q *= 2 {
		for r := q; r <= 1000000000; r *= 5 {
			for _, p := range []int{1, 3, 1<<31 - 1} {
				if 1000000000%r == 0 {
					writesExpr(t, api.Expr{Kind: api.ENumber, Num: api.Num{P: p, Q: r}})
				}
			}
		}
	}
}

// operators returns a function for each operator, which makes an expression of two operands. A unary operator takes
// the second one.
func operators() []func(a, b api.Expr) api.Expr {
	var l []func(a, b api.Expr) api.Expr
	for op := api.OpAdd; op <= api.OpBnot; op++ {
		l = append(l, func(a, b api.Expr) api.Expr {
			if op >= api.OpNeg {
				return api.Expr{Kind: api.EUnary, Op: op, Args: []api.Expr{b}}
			}
			return api.Expr{Kind: api.EBinary, Op: op, Args: []api.Expr{a, b}}
		})
	}
	for _, kind := range []int{api.EAnd, api.EOr} {
		l = append(l, func(a, b api.Expr) api.Expr { return api.Expr{Kind: kind, Args: []api.Expr{a, b}} })
	}
	return l
}

// TestOperators has all operators within one another, three at a time.
func TestOperators(t *testing.T) {
	a, b := api.Expr{Kind: api.EName, Str: "a"}, api.Expr{Kind: api.ENumber, Num: api.Num{P: 1, Q: 1}}
	all := operators()
	for _, f := range all {
		writesExpr(t, f(a, b))
		for _, g := range all {
			writesExpr(t, f(g(a, b), b))
			writesExpr(t, f(b, g(b, a)))
			for _, h := range all {
				writesExpr(t, f(g(a, h(b, a)), b))
				writesExpr(t, f(g(h(b, a), a), h(a, b)))
				writesExpr(t, f(a, g(h(a, b), h(b, a))))
			}
		}
	}
}

// TestObjects has all expressions as what is indexed or called, also at the beginning of a statement.
func TestObjects(t *testing.T) {
	for _, s := range []string{"nil", "true", "false", "1.5", "'x'", "(...)", "a", "a.b", "a[1]", "a()", "a:b()", "function() end", "{}", "-a", "a + b", "a ^ b", "a and b", "a or b", "(a())", "(a:b())"} {
		x := readExpr(t, s)
		for _, e := range []api.Expr{
			{Kind: api.EIndex, Args: []api.Expr{x, {Kind: api.EString, Str: "k"}}},
			{Kind: api.EIndex, Args: []api.Expr{x, x}},
			{Kind: api.ECall, Args: []api.Expr{x}},
			{Kind: api.EMethod, Str: "m", Args: []api.Expr{x, x}},
		} {
			bracket := strings.HasPrefix(writesExpr(t, e), "(")
			stats := []api.Stat{{Kind: api.SCall, Right: []api.Expr{e}}}
			if e.Kind == api.EIndex {
				stats = []api.Stat{{Kind: api.SAssign, Left: []api.Expr{e, e}, Right: []api.Expr{x}}}
			}
			stats = append(stats, stats[0])
			if text := writes(t, stats); bracket != strings.HasPrefix(text, ";(") || !bracket && strings.Contains(text, ";") {
				t.Errorf("wrong semicolons: %s", text)
			}
		}
	}
}

// TestKeys has strings that are names, or not, as keys.
func TestKeys(t *testing.T) {
	long := strings.Repeat("n", api.MaxName)
	for s, name := range map[string]bool{"a": true, "_": true, "a1": true, "const": true, "self": true, long: true, long + "n": false, "": false, "1": false, "1a": false, "a b": false, "a.b": false, "é": false, "nil": false, "end": false, "and": false, "goto": false} {
		key := api.Expr{Kind: api.EString, Str: s}
		object := api.Expr{Kind: api.EName, Str: "t"}
		index := writesExpr(t, api.Expr{Kind: api.EIndex, Args: []api.Expr{object, key}})
		pair := writesExpr(t, api.Expr{Kind: api.ETable, Args: []api.Expr{{Kind: api.EPair, Args: []api.Expr{key, object}}}})
		if (index == "t."+s) != name || (pair == "{"+s+" = t}") != name || strings.Contains(index+pair, "[") == name {
			t.Errorf("the key %s: %s, %s", s, index, pair)
		}
	}
}

// strs returns strings whose texts, with commas and spaces between them, have a number of bytes.
func strs(n int) []api.Expr {
	const most = 4000
	l := []api.Expr{{Kind: api.EString}}
	for ; n > most; n -= len(`"", `) + most {
		l = append(l, api.Expr{Kind: api.EString, Str: strings.Repeat("x", most)})
	}
	l[0].Str = strings.Repeat("x", n-len(`""`))
	return l
}

// filler returns a statement whose text has a number of bytes.
func filler(n int) api.Stat {
	return api.Stat{Kind: api.SLocal, Names: []api.Local{{Name: "a"}}, Right: strs(n - len("local a = \n"))}
}

// TestMaxText has texts of MaxText bytes and of one more, with each statement at their end.
func TestMaxText(t *testing.T) {
	endings := []string{"", "local a", "f()", "f('xyz')", "a = b", "(f())()", "local function f(a, ...) end", "function t.f:g(self) end", "while a do f() end", "repeat f() until a", "if a then elseif b then else end",
		"for i = 1, 2 do end", "for i, k in f do end", "return", "return a", "break", "goto a", "::a::", "a = {1, b = 2, [c] = 3}", "a = function() return function() end end", "local a <const> = -(-b)", "a = b .. c", "a[b].c.d = (...)"}
	for _, s := range endings {
		b := read(t, s)
		size := len(wantBlock(b))
		for more, want := range []api.Errno{api.OK, api.ErrLimit, api.ErrLimit} {
			all := append([]api.Stat{filler(api.MaxText - size + more)}, b...)
			text, e := printer.Chunk(all)
			if e != want || e == api.OK && (len(text) != api.MaxText || text != wantBlock(all)) || e != api.OK && text != "" {
				t.Errorf("%d bytes more with %s: %d bytes, error %d", more, s, len(text), int(e))
			}
		}
	}
	for more, want := range []api.Errno{api.OK, api.ErrLimit, api.ErrLimit} {
		x := api.Expr{Kind: api.ETable}
		for _, e := range strs(api.MaxText + more - len("{}")) {
			x.Args = append(x.Args, api.Expr{Kind: api.EItem, Args: []api.Expr{e}})
		}
		text, e := printer.Expr(x)
		if e != want || e == api.OK && (len(text) != api.MaxText || text != wantExpr(x)) || e != api.OK && text != "" {
			t.Errorf("an expression with %d bytes more: %d bytes, error %d", more, len(text), int(e))
		}
	}
}

// TestHugeTexts has trees whose texts would have up to a gigabyte.
func TestHugeTexts(t *testing.T) {
	text := api.Expr{Kind: api.EString, Str: strings.Repeat("\n", api.MaxString)}
	item := api.Expr{Kind: api.EItem, Args: []api.Expr{text}}
	x := api.Expr{Kind: api.ETable}
	for range (api.MaxNodes - 2) / 2 {
		x.Args = append(x.Args, item)
	}
	if s, e := printer.Expr(x); s != "" || e != api.ErrLimit {
		t.Errorf("Expr: %d bytes, error %d", len(s), int(e))
	}
	b := make([]api.Stat, api.MaxNodes/3)
	for i := range b {
		b[i] = api.Stat{Kind: api.SLocal, Names: []api.Local{{Name: "a"}}, Right: []api.Expr{text, text}}
	}
	if s, e := printer.Chunk(b); s != "" || e != api.ErrLimit {
		t.Errorf("Chunk: %d bytes, error %d", len(s), int(e))
	}
	for range 60 {
		b = []api.Stat{{Kind: api.SDo, Blocks: [][]api.Stat{b}}}
	}
	if s, e := printer.Chunk(b); s != "" || e != api.ErrLimit {
		t.Errorf("Chunk: %d bytes, error %d", len(s), int(e))
	}
}

// TestDeepest has a chunk of the depth MaxDepth.
func TestDeepest(t *testing.T) {
	b := []api.Stat{{Kind: api.SBreak}}
	for tree.Depth(b) < api.MaxDepth {
		b = []api.Stat{{Kind: api.SDo, Blocks: [][]api.Stat{b}}}
	}
	if text := writes(t, b); !strings.Contains(text, "\n"+strings.Repeat("  ", 63)+"break\n") {
		t.Errorf("wrong indentations")
	}
	if s, e := printer.Chunk([]api.Stat{{Kind: api.SDo, Blocks: [][]api.Stat{b}}}); s != "" || e != api.ErrLimit {
		t.Errorf("a chunk that is deeper: %s, error %d", s, int(e))
	}
}

// TestWrongTrees has trees that are not well-formed.
func TestWrongTrees(t *testing.T) {
	name := func(s string) api.Expr { return api.Expr{Kind: api.EName, Str: s} }
	for i, x := range []struct {
		b []api.Stat
		e api.Errno
	}{
		{[]api.Stat{{}}, api.ErrForm},
		{[]api.Stat{{Kind: api.SLocal}}, api.ErrForm},
		{[]api.Stat{{Kind: api.SReturn}, {Kind: api.SBreak}}, api.ErrForm},
		{[]api.Stat{{Kind: api.SGoto, Label: "end"}}, api.ErrName},
		{[]api.Stat{{Kind: api.SGoto, Label: strings.Repeat("a", 41)}}, api.ErrLimit},
		{[]api.Stat{{Kind: api.SBreak}, {Kind: api.SDo}}, api.ErrForm},
		{[]api.Stat{{Kind: api.SCall, Right: []api.Expr{name("f")}}}, api.ErrForm},
		{make([]api.Stat, api.MaxNodes+1), api.ErrLimit},
	} {
		if s, e := printer.Chunk(x.b); s != "" || e != x.e || e != tree.Check(x.b) {
			t.Errorf("chunk %d: %s, error %d; want error %d", i, s, int(e), int(x.e))
		}
	}
	for i, x := range []struct {
		x api.Expr
		e api.Errno
	}{
		{api.Expr{}, api.ErrForm},
		{name("end"), api.ErrName},
		{name(""), api.ErrName},
		{name(strings.Repeat("a", 41)), api.ErrLimit},
		{api.Expr{Kind: api.EString, Str: strings.Repeat("a", 4097)}, api.ErrLimit},
		{api.Expr{Kind: api.ENumber, Num: api.Num{P: -1, Q: 1}}, api.ErrForm},
		{api.Expr{Kind: api.ENumber, Num: api.Num{P: 1, Q: 3}}, api.ErrForm},
		{api.Expr{Kind: api.ENumber}, api.ErrForm},
		{api.Expr{Kind: api.EItem, Args: []api.Expr{name("a")}}, api.ErrForm},
		{api.Expr{Kind: api.EFunc, Funcs: []api.Func{{Name: "f"}}}, api.ErrForm},
		{api.Expr{Kind: api.EParen, Args: []api.Expr{name("a")}}, api.ErrForm},
		{api.Expr{Kind: api.EUnary, Op: api.OpAdd, Args: []api.Expr{name("a")}}, api.ErrForm},
	} {
		if s, e := printer.Expr(x.x); s != "" || e != x.e || e != tree.Expr(x.x) {
			t.Errorf("expression %d: %s, error %d; want error %d", i, s, int(e), int(x.e))
		}
	}
}

// TestNothingIsChanged checks that trees stay as they are.
func TestNothingIsChanged(t *testing.T) {
	source := "local a <const>, b = -(-1), {x = 1, ['y z'] = f'x'} function a.b:c(d, ...) ;(f)() end return function() end"
	b := read(t, source)
	first, _ := printer.Chunk(b)
	for i := range 3 {
		if text, e := printer.Chunk(b); text != first || e != api.OK || !tree.Same(b, read(t, source)) {
			t.Errorf("call %s: %s, error %d", strconv.Itoa(i), text, int(e))
		}
	}
}
