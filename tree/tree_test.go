package tree_test

import (
	"slices"
	"testing"

	"scripting/api"
	"scripting/tree"
)

func TestSizeDepth(t *testing.T) {
	one := num(1, 1)
	for _, c := range []struct {
		what        string
		b           []api.Stat
		size, depth int
	}{
		{"local x = 1 + 2", block(local("x", bin(api.OpAdd, one, num(2, 1)))), 4, 3},
		{"nothing", nil, 0, 1},
		{"an empty list", block(), 0, 1},
		{"break", block(leave()), 1, 1},
		{"two statements without parts", block(label("l"), jump("l")), 2, 1},
		{"local x", block(local("x")), 1, 1},
		{"return 1", block(result(one)), 2, 2},
		{"an empty block", block(do()), 1, 2},
		{"an empty block in a block", block(do(do()), leave()), 3, 3},
		{"the deepest of several statements", block(leave(), do(do(do())), result(one)), 6, 4},
		{"an empty function", block(result(fn("", nil))), 2, 3},
		{"a function with a statement", block(result(fn("", words("a b"), leave()))), 3, 3},
		{"an empty table", block(result(table())), 2, 2},
		{"a table with an item", block(result(table(item(one)))), 4, 4},
		{"arguments", block(callStat(call(name("f"), one, un(api.OpNeg, one)))), 6, 4},
		{"Left, Right and Blocks", block(api.Stat{Kind: api.SFor, Left: list(one), Right: list(un(0, one)), Blocks: blocks(block(do()), nil)}), 5, 3},
		{"a condition with blocks", block(choice(list(one, one), block(leave()), nil, block(leave(), do()))), 6, 3},
		{"more conditions than blocks", block(choice(list(one, one, un(0, un(0, one))), nil)), 6, 4},
		{"a repeat", block(repeat(un(api.OpNeg, one), leave())), 4, 3},
		{"no kinds", block(api.Stat{Left: list(api.Expr{Args: list(leaf(0))}), Blocks: blocks(nil, nil)}), 3, 3},
		{"two functions of an expression", block(result(api.Expr{Args: list(one), Funcs: []api.Func{{}, {Body: block(leave())}}})), 4, 3},
	} {
		if size, depth := tree.Size(c.b), tree.Depth(c.b); size != c.size || depth != c.depth {
			t.Errorf("%s: size %d, depth %d; want %d, %d", c.what, size, depth, c.size, c.depth)
		}
	}
}

// variants calls f with many chunks: well-formed ones, and others.
func variants(f func(b []api.Stat)) {
	c, all := chance(7), changes()
	f(nil)
	f(allKinds())
	for range 2000 {
		b := allKinds()
		b = b[c.below(len(b)):]
		for range c.below(6) {
			x, _ := survey(b)
			all[c.below(len(all))](x[c.below(len(x))])
		}
		f(b)
	}
}

// TestVariants compares what the functions return for many chunks with the survey of the chunk.
func TestVariants(t *testing.T) {
	variants(func(b []api.Stat) {
		before := text(b)
		l, depth := survey(b)
		size, exprs, funcs := 0, []api.Expr{}, []api.Func{{Name: "main", Vararg: true, Body: b}}
		for _, x := range l {
			switch {
			case x.expr != nil:
				exprs = append(exprs, *x.expr)
			case x.fn != nil:
				funcs = append(funcs, *x.fn)
			}
			if x.fn == nil {
				size++
			}
		}
		if got := tree.Size(b); got != size {
			t.Fatalf("Size(%.2000s): %d, want %d", text(b), got, size)
		}
		if got := tree.Depth(b); got != depth {
			t.Fatalf("Depth(%.2000s): %d, want %d", text(b), got, depth)
		}
		if got := slices.Collect(tree.Each(b)); !slices.EqualFunc(got, exprs, equalExprs) {
			t.Fatalf("Each(%.2000s): %v", text(b), got)
		}
		if got := tree.Funcs(b); !slices.EqualFunc(got, funcs, equalFuncs) {
			t.Fatalf("Funcs(%.2000s): %v", text(b), got)
		}
		if text(b) != before {
			t.Fatalf("a chunk has been changed from %.2000s", before)
		}
	})
}

// equalExprs and equalFuncs compare by text, apart from Same and SameExpr.
func equalExprs(a, b api.Expr) bool { return text(block(result(a))) == text(block(result(b))) }
func equalFuncs(a, b api.Func) bool {
	return equalExprs(api.Expr{Funcs: []api.Func{a}}, api.Expr{Funcs: []api.Func{b}})
}

// TestSame compares chunks in which one field differs.
func TestSame(t *testing.T) {
	all, equal, different := changes(), 0, 0
	for _, s := range allKinds() {
		a := block(s)
		before := text(a)
		l, _ := survey(a)
		for i := range l {
			for _, c := range all {
				b := block(cloneStat(s))
				x, _ := survey(b)
				c(x[i])
				want := text(b) == before
				if tree.Same(a, b) != want || tree.Same(b, a) != want {
					t.Fatalf("Same(%.2000s, %.2000s): want %t", text(a), text(b), want)
				}
				if x := fn("f", nil, a...); tree.SameExpr(x, fn("f", nil, b...)) != want {
					t.Fatalf("SameExpr of functions of %.2000s and %.2000s: want %t", text(a), text(b), want)
				}
				if want {
					equal++
				} else {
					different++
				}
			}
		}
		if text(a) != before {
			t.Fatalf("a chunk has been changed from %.2000s", before)
		}
	}
	if equal < 100 || different < 100 {
		t.Errorf("%d equal chunks, %d different ones", equal, different)
	}
}

func TestSameExamples(t *testing.T) {
	a, one := name("a"), num(1, 1)
	for _, c := range []struct {
		what string
		a, b []api.Stat
		want bool
	}{
		{"nil and an empty list", nil, block(), true},
		{"nothing and a statement", nil, block(leave()), false},
		{"empty lists", block(api.Stat{}), block(api.Stat{Names: vars(""), Left: list(), Right: []api.Expr{}, Blocks: [][]api.Stat{}}), true},
		{"lists without an element and with an empty one", block(api.Stat{}), block(api.Stat{Blocks: blocks(nil)}), false},
		{"empty blocks", block(do()), block(api.Stat{Kind: api.SDo, Blocks: blocks([]api.Stat{})}), true},
		{"empty parameters", block(result(fn("", nil))), block(result(fn("", []string{}))), true},
		{"parameters", block(result(fn("", words("a b")))), block(result(fn("", words("b a")))), false},
		{"a parameter more", block(result(fn("", words("a b")))), block(result(fn("", words("a")))), false},
		{"the order of statements", block(leave(), do()), block(do(), leave()), false},
		{"a statement more", block(leave()), block(leave(), leave()), false},
		{"the order of operands", block(result(bin(api.OpAdd, a, one))), block(result(bin(api.OpAdd, one, a))), false},
		{"Left and Right", block(api.Stat{Left: list(a)}), block(api.Stat{Right: list(a)}), false},
		{"lines", block(api.Stat{Line: 1}), block(api.Stat{Line: 2}), false},
		{"attributes", block(api.Stat{Names: []api.Local{{Attr: 1}}}), block(api.Stat{Names: []api.Local{{Attr: 2}}}), false},
		{"equal numbers written differently", block(result(num(1, 2))), block(result(num(2, 4))), false},
		{"blocks", block(choice(list(a), block(leave()), nil)), block(choice(list(a), nil, block(leave()))), false},
	} {
		if tree.Same(c.a, c.b) != c.want || tree.Same(c.b, c.a) != c.want {
			t.Errorf("Same of %s: want %t", c.what, c.want)
		}
	}
	if tree.SameExpr(a, one) || !tree.SameExpr(a, name("a")) || !tree.SameExpr(api.Expr{}, api.Expr{Args: list(), Funcs: []api.Func{}}) {
		t.Error("SameExpr")
	}
	if lined := (api.Expr{Kind: api.EName, Str: "a", Line: 1}); tree.SameExpr(a, lined) || !tree.SameExpr(lined, lined) {
		t.Error("SameExpr does not compare lines")
	}
}

// short returns words that stand for expressions.
func short(l []api.Expr) string {
	s := ""
	for _, e := range l {
		switch {
		case e.Str != "":
			s += " " + e.Str
		case e.Kind == api.ECall:
			s += " " + e.Args[0].Str + "()"
		case e.Kind == api.EFunc:
			s += " function"
		default:
			s += " ?"
		}
	}
	return s
}

func TestEach(t *testing.T) {
	a, b := name("a"), name("b")
	for _, c := range []struct {
		b    []api.Stat
		want string
	}{
		{block(callStat(call(name("f"), a, call(name("g"), b)))), " f() f a g() g b"},
		{nil, ""},
		{block(leave(), do(local("x"))), ""},
		{block(do(result(a)), result(b)), " a b"},
		{block(assign(list(a, b), name("c"), name("d"))), " a b c d"},
		{block(choice(list(a, b), block(result(name("c"))), block(result(name("d"))), block(result(name("e"))))), " a c b d e"},
		{block(repeat(a, result(b))), " b a"},
		{block(while(a, result(b))), " a b"},
		{block(generic("k", list(a), result(b))), " a b"},
		{block(local("x", fn("", nil, result(a)), b)), " function a b"},
		{block(result(api.Expr{Kind: api.ECall, Args: list(a), Funcs: []api.Func{{Body: block(result(b))}, {Body: block(result(name("c")))}}})), " a() a b c"},
		{block(api.Stat{Kind: api.SRepeat, Left: list(a), Right: list(b), Blocks: blocks(block(result(name("c"))))}), " a c b"},
		{block(api.Stat{Kind: api.SIf, Left: list(a), Right: list(b, name("d")), Blocks: blocks(block(result(name("c"))))}), " a b c d"},
		{block(api.Stat{Left: list(a), Right: list(b), Blocks: blocks(block(result(name("c"))))}), " a b c"},
	} {
		if got := short(slices.Collect(tree.Each(c.b))); got != c.want {
			t.Errorf("Each(%v):%s; want%s", c.b, got, c.want)
		}
	}
}

// TestEachEnds leaves the loop after each number of expressions, and starts again with the same sequence.
func TestEachEnds(t *testing.T) {
	b := allKinds()
	seq, all := tree.Each(b), slices.Collect(tree.Each(b))
	for n := range all {
		var got []api.Expr
		for e := range seq {
			got = append(got, e)
			if len(got) == n+1 {
				break
			}
		}
		if !slices.EqualFunc(got, all[:n+1], equalExprs) {
			t.Fatalf("the first %d expressions are %v", n+1, got)
		}
	}
	if got := slices.Collect(seq); !slices.EqualFunc(got, all, equalExprs) {
		t.Errorf("all expressions are %v", got)
	}
}

// spoil changes all fields in the memory of an expression.
func spoil(b []api.Stat) {
	l, _ := survey(b)
	for _, x := range l {
		switch {
		case x.stat != nil:
			for i := range x.stat.Names {
				x.stat.Names[i] = api.Local{}
			}
			*x.stat = api.Stat{}
		case x.expr != nil:
			*x.expr = api.Expr{}
		default:
			clear(x.fn.Params)
			*x.fn = api.Func{}
		}
	}
}

// TestEachMemory changes what Each was given and what it yielded.
func TestEachMemory(t *testing.T) {
	b := allKinds()
	before, all := text(b), slices.Collect(tree.Each(b))
	i := 0
	for e := range tree.Each(b) {
		if !equalExprs(e, all[i]) {
			t.Fatalf("the expression %d is %v after other ones have been changed, before %v", i, e, all[i])
		}
		spoil(block(result(e)))
		i++
	}
	if text(b) != before {
		t.Errorf("the chunk shares memory with its expressions")
	}
	seq := tree.Each(b)
	spoil(b)
	if got := slices.Collect(seq); !slices.EqualFunc(got, all, equalExprs) {
		t.Errorf("the sequence has retained the chunk: %v", got)
	}
}

// TestFuncsMemory changes what Funcs was given and what it returned.
func TestFuncsMemory(t *testing.T) {
	inner := fn("", words("q"), result(fn("", words("x ..."), leave())))
	b := append(block(local("a", inner, inner)), allKinds()...)
	before, all := text(b), tree.Funcs(b)
	for i := range all {
		l := tree.Funcs(b)
		spoil(l[i].Body)
		clear(l[i].Params)
		for k := range l {
			if k != i && !equalFuncs(l[k], all[k]) {
				t.Fatalf("the functions %d and %d share memory", i, k)
			}
		}
	}
	if text(b) != before {
		t.Errorf("the chunk shares memory with its functions")
	}
	texts := text(block(result(api.Expr{Funcs: all})))
	spoil(b)
	if text(block(result(api.Expr{Funcs: all}))) != texts {
		t.Errorf("the functions share memory with the chunk")
	}
}

func TestFuncs(t *testing.T) {
	named := func(n string, body ...api.Stat) api.Func { return fn(n, words("p"), body...).Funcs[0] }
	expr := func(n string, body ...api.Stat) api.Expr { return fn(n, words("p"), body...) }
	for _, c := range []struct {
		what string
		b    []api.Stat
		want []string
	}{
		{"nothing", nil, words("main")},
		{"no function", block(leave(), result(dots())), words("main")},
		{"functions in a row", block(localFunc("f", expr("f")), result(expr("g"), expr("h"))), words("main f g h")},
		{"functions in functions", block(result(expr("f", result(expr("g", result(expr("h")))), do(result(expr("i")))), expr("j"))), words("main f g h i j")},
		{"Args before Funcs", block(result(api.Expr{Args: list(expr("a", result(expr("b")))), Funcs: []api.Func{named("c", result(expr("d"))), named("e")}})), words("main a b c d e")},
		{"Left before Right", block(assign(list(index(expr("a"), expr("b"))), expr("c"))), words("main a b c")},
		{"a repeat", block(repeat(expr("b"), result(expr("a")))), words("main a b")},
		{"conditions", block(choice(list(expr("a"), expr("c")), block(result(expr("b"))), block(result(expr("d"))), block(result(expr("e"))))), words("main a b c d e")},
	} {
		var got []string
		for i, f := range tree.Funcs(c.b) {
			got = append(got, f.Name)
			if f.Vararg != (i == 0) || f.Line != 0 || len(f.Params) != min(i, 1) {
				t.Errorf("Funcs of %s: %v at %d", c.what, f, i)
			}
		}
		if !slices.Equal(got, c.want) {
			t.Errorf("Funcs of %s: %v, want %v", c.what, got, c.want)
		}
	}
	b := block(result(fn("", words("a b ..."), leave())))
	b[0].Right[0].Funcs[0].Line = 5
	got := tree.Funcs(b)
	if len(got) != 2 || !tree.Same(got[0].Body, b) || got[0].Line != 0 || len(got[0].Params) != 0 {
		t.Fatalf("Funcs: %v", got)
	}
	if f := got[1]; f.Line != 5 || !f.Vararg || !slices.Equal(f.Params, words("a b")) || len(f.Body) != 1 {
		t.Errorf("Funcs: %v", f)
	}
}

func TestMulti(t *testing.T) {
	for kind := -1; kind <= api.EParen+1; kind++ {
		want := kind == api.ECall || kind == api.EMethod || kind == api.EVararg
		if tree.Multi(leaf(kind)) != want || tree.Multi(of(kind, dots())) != want {
			t.Errorf("Multi of the kind %d: want %t", kind, want)
		}
	}
	if tree.Multi(paren(call(name("f")))) || tree.Multi(fn("", words("..."))) || !tree.Multi(call(name("f"), num(1, 1))) {
		t.Error("Multi")
	}
}
