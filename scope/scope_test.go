package scope_test

import (
	"math"
	"slices"
	"strconv"
	"strings"
	"testing"

	"scripting/api"
	"scripting/scope"
	"scripting/tree"
)

// TestErrors has each error of P8.1 and, next to it, what is accepted.
func TestErrors(t *testing.T) {
	for _, x := range []struct {
		text string
		line int
		e    api.Errno
	}{
		// An EVararg in a function without Vararg.
		{"return ...", 0, api.OK},
		{"return function(...)\nreturn ... end", 0, api.OK},
		{"return function()\nreturn f(\n...) end", 3, api.ErrForm},
		{"return function(...)\nreturn function()\nreturn (...) end end", 3, api.ErrForm},
		{"return function() return function(...) return ... end end", 0, api.OK},
		{"return function() return function(...) end,\n... end", 2, api.ErrForm},
		{"function a:b()\n\nx = ... end", 3, api.ErrForm},
		{"local function a() local x = function(...) end\nfor i in ... do end end", 2, api.ErrForm},
		// An SBreak that is in no loop of its function.
		{"break", 1, api.ErrForm},
		{"do\nif a then\nbreak end end", 3, api.ErrForm},
		{"while a do break end", 0, api.OK},
		{"repeat break until a", 0, api.OK},
		{"for i = 1, 2 do if a then do break end end end", 0, api.OK},
		{"for i in a do break end", 0, api.OK},
		{"for i in a do end\nbreak", 2, api.ErrForm},
		{"while a do f(function()\nbreak end) end", 2, api.ErrForm},
		{"while a do f(function() while b do end end) break end", 0, api.OK},
		{"while function()\nbreak end do end", 2, api.ErrForm},
		{"repeat until function()\nbreak end", 2, api.ErrForm},
		// An SLabel of the same name in its block or in an enclosing block of the same function, before it.
		{"::a::\n::a::", 2, api.ErrTwice},
		{"::a:: ::b::\n::c:: ::b::", 2, api.ErrTwice},
		{"::a:: do\n::a:: end", 2, api.ErrTwice},
		{"::a:: while x do if y then\n::a:: end end", 2, api.ErrTwice},
		{"do ::a:: end ::a::", 0, api.OK},
		{"do ::a:: end do ::a:: end", 0, api.OK},
		{"if x then ::a:: elseif y then ::a:: else ::a:: end", 0, api.OK},
		{"::a:: f(function() ::a:: end)", 0, api.OK},
		{"repeat ::a:: until function() ::a:: end", 0, api.OK},
		// An EName that sets a constant.
		{"local a <const> = 1\na = 2", 2, api.ErrConst},
		{"local a <close> = nil\na = 2", 2, api.ErrConst},
		{"local a, b <const>, c a = 1 c = 1\nx, b = 1", 2, api.ErrConst},
		{"local a <const> = 1 function\na() end", 2, api.ErrConst},
		{"local a <const> = 1 f(function()\na = 2 end)", 2, api.ErrConst},
		{"local a <close> = nil f(function() return function()\na = 2 end end)", 2, api.ErrConst},
		{"local a <const> = {} a.b = 1 a[a] = a a.b.c, a[1] = a, a function a.b() end function a:b() end f(a)", 0, api.OK},
		{"local a <const> = 1 local a a = 2", 0, api.OK},
		{"local a <const> = 1 do local a a = 2 end\na = 3", 2, api.ErrConst},
		{"do local a <const> = 1 end a = 2", 0, api.OK},
		{"local a local a <const> = 1\na = 2", 2, api.ErrConst},
		{"local a, a <const> = 1\na = 2", 2, api.ErrConst},
		{"local a <const>, a = 1 a = 2", 0, api.OK},
		{"local a <const> = function() a = 1 end", 0, api.OK},
		{"local a <const> = 1 local function a() a = 1 end a = 1", 0, api.OK},
		{"local a <const> = 1 for a = 1, 2 do a = 1 end for a, b in c do a = 1 end f(function(a) a = 1 end)", 0, api.OK},
		// An SGoto without a visible label.
		{"goto a", 1, api.ErrLabel},
		{"do ::a:: end\ngoto a", 2, api.ErrLabel},
		{"do\ngoto a end do ::a:: end", 2, api.ErrLabel},
		{"if x then ::a:: else\ngoto a end", 2, api.ErrLabel},
		{"::a:: f(function()\ngoto a end)", 2, api.ErrLabel},
		{"f(function() ::a:: end)\ngoto a", 2, api.ErrLabel},
		{"::a:: goto\nb", 1, api.ErrLabel},
		{"::a:: goto a", 0, api.OK},
		{"goto a ::a::", 0, api.OK},
		{"do while x do if y then goto a end end end ::a:: f()", 0, api.OK},
		{"f(function() goto a ::a:: end)", 0, api.OK},
	} {
		checks(t, x.text, x.line, x.e)
	}
}

// TestScopesOfLabels has gotos that enter the scope of a local variable and, next to them, others.
func TestScopesOfLabels(t *testing.T) {
	for _, x := range []struct {
		text string
		line int
	}{
		{"goto a local x = 1 ::a::", 0},
		{"\ngoto a local x = 1 ::a:: print(x)", 2},
		{"goto a local x ::a:: ::b:: ;;; ::c::", 0},
		{"\ngoto a local x ::a:: ::b:: ; do end", 2},
		{"\ngoto a local x ::a:: return", 2},
		{"\ngoto a local x ::b:: ::a:: ::c:: goto b", 2},
		{"\ngoto a local function x() end ::a:: f()", 2},
		{"goto a local function x() end ::a::", 0},
		{"goto a function x() end x = 1 do local y end ::a:: f()", 0},
		{"local x goto a ::a:: local y f()", 0},
		{"local x ::a:: local y goto a", 0},
		{"do goto a end local x ::a::", 0},
		{"do\ngoto a end local x ::a:: f()", 2},
		{"while x do local y repeat goto a until y end ::a:: f()", 0},
		{"while x do for i = 1, 2 do if y then\ngoto a end end local z ::a:: f() end", 2},
		{"while x do goto a local y ::a:: end", 0},
		{"for i = 1, 2 do goto a local y ::a:: end", 0},
		{"for i in x do goto a local y ::a:: end", 0},
		{"if x then goto a local y ::a:: else goto a local y ::a:: end", 0},
		{"f(function() goto a local y ::a:: end)", 0},
		{"\nrepeat goto a local y ::a:: until x", 2},
		{"repeat goto a ::a:: local y until x", 0},
		{"repeat do goto a local y ::a:: end until x", 0},
		{"repeat local y goto a ::a:: until x", 0},
		{"repeat f(function() goto a local y ::a:: end) until x", 0},
		// The label of the innermost block counts, even if it cannot be reached.
		{"do\ngoto a local x ::a:: f() end ::a::", 2},
		{"do goto a do ::a:: end end ::a:: f()", 0},
		// A scope that ends before the label is not entered.
		{"goto a do local x end ::a:: f()", 0},
		// The first label of a block counts.
		{"goto a ::a:: local x", 0},
	} {
		want := api.OK
		if x.line > 0 {
			want = api.ErrLabel
		}
		checks(t, x.text, x.line, want)
	}
}

// TestFirstError has chunks with several errors.
func TestFirstError(t *testing.T) {
	for _, x := range []struct {
		text string
		line int
		e    api.Errno
	}{
		{"break\ngoto a", 1, api.ErrForm},
		{"goto a\nbreak", 1, api.ErrLabel},
		{"goto a local x\n::a:: ::a:: f()", 1, api.ErrLabel},
		{"goto a\n::a:: ::a:: f()", 2, api.ErrTwice},
		{"::a:: goto a local x\n::a:: f()", 2, api.ErrTwice},
		{"local a <const> = function()\nbreak end\na = 1", 2, api.ErrForm},
		{"local a <const> = 1\na = function()\nbreak end", 2, api.ErrConst},
		{"local a <const> = 1\nb[function()\nbreak end], a = 1", 3, api.ErrForm},
		{"local a <const> = 1\na, b[function()\nbreak end] = 1", 2, api.ErrConst},
		{"if function()\ngoto a end then\nbreak else goto b end", 2, api.ErrLabel},
		{"if x then\nbreak elseif function()\ngoto a end then end", 2, api.ErrForm},
		{"repeat\ngoto a until function()\nbreak end", 2, api.ErrLabel},
		{"while function()\nbreak end do\ngoto a end", 2, api.ErrForm},
		{"for i = function()\nbreak end, 2 do\ngoto a end", 2, api.ErrForm},
		{"for i in function()\nbreak end do\ngoto a end", 2, api.ErrForm},
		{"return function() return function()\nbreak end,\n... end", 2, api.ErrForm},
	} {
		checks(t, x.text, x.line, x.e)
	}
}

// sequence returns so many words with a number, separated by commas.
func sequence(n int, word string) string {
	var l []string
	for i := range n {
		l = append(l, word+strconv.Itoa(i))
	}
	return strings.Join(l, ", ")
}

// TestManyLocals has MaxLocals variables in scope together, and one more.
func TestManyLocals(t *testing.T) {
	full, less := sequence(120, "a"), sequence(119, "a")
	accepts(t, "local "+full)
	checks(t, "\nlocal "+sequence(121, "a"), 2, api.ErrLimit)
	checks(t, "\nlocal\n"+full+",\na0", 2, api.ErrLimit)
	for _, x := range []struct {
		text string
		line int
	}{{"local\nb", 2}, {"local function\nb() end", 2}, {"for i\n= 1, 2 do end", 2}, {"for i\nin f do end", 2}, {"do\nlocal b end", 3}} {
		accepts(t, "local "+less+"\n"+x.text)
		checks(t, "local "+full+"\n"+x.text, x.line, api.ErrLimit)
		accepts(t, "do local "+full+" end\n"+x.text)
		accepts(t, "local "+full+" f(function()\n"+x.text+" end)")
		checks(t, "f(function("+full+")\n"+x.text+" end)", x.line, api.ErrLimit)
	}
	checks(t, "local "+sequence(118, "a")+"\nfor i, k, v in f do end", 2, api.ErrLimit)
	accepts(t, "local "+sequence(118, "a")+"\nfor i, k in f do end for i, k in f do end")
	accepts(t, "f(function("+full+", ...) end)")
	checks(t, "f(1,\nfunction(\n"+full+",\nb) end)", 2, api.ErrLimit)
	checks(t, "local function\nf("+full+", b) end", 1, api.ErrLimit)
	checks(t, "\nfunction t:m("+full+") end", 2, api.ErrLimit)
	accepts(t, "function t:m("+less+") end")
	// The variables of an SLocal begin after its Right, that of an SFunc before its function.
	checks(t, "local "+full+" local b = function()\nbreak end", 2, api.ErrForm)
	checks(t, "local "+full+" local function b()\nbreak end", 1, api.ErrLimit)
	checks(t, "local "+full+" for i = function()\nbreak end, 1 do end", 2, api.ErrForm)
	checks(t, "local "+full+" for i in f do\nbreak end", 1, api.ErrLimit)
	// The variables of a repeat are in scope in its condition; a function in it has its own ones.
	accepts(t, "repeat local "+full+" until function(a) local "+less+" end local b")
	accepts(t, "while x do local "+full+" end if x then local "+full+" else local "+full+" end local "+full)
}

// TestFunctionLine gives a function another line than its expression.
func TestFunctionLine(t *testing.T) {
	f := api.Func{Line: 7}
	for range 121 {
		f.Params = append(f.Params, "a")
	}
	b := []api.Stat{{Kind: api.SReturn, Line: 1, Right: []api.Expr{{Kind: api.EFunc, Line: 3, Funcs: []api.Func{f}}}}}
	if line, e := scope.Check(b); line != 7 || e != api.ErrLimit {
		t.Errorf("line %d, error %d", line, int(e))
	}
	b[0].Right[0].Funcs[0].Params = f.Params[:120]
	if line, e := scope.Check(b); line != 0 || e != api.OK {
		t.Errorf("line %d, error %d", line, int(e))
	}
}

// TestManyUpvalues has functions with MaxUps upvalues, and with one more.
func TestManyUpvalues(t *testing.T) {
	declared := "local " + sequence(61, "a") + " local c <const> = 1 "
	most := sequence(60, "a")
	accepts(t, declared+"f(function() return "+most+", "+most+" end)")
	checks(t, declared+"f(function() return "+most+",\na60,\na60 end)", 2, api.ErrLimit)
	accepts(t, declared+"f(function() return "+most+", b end, function() return a60 end)")
	accepts(t, declared+"f(function() local a60 return "+most+", a60 end)")
	// The functions between have the upvalues, too.
	accepts(t, declared+"f(function() return function() return "+most+" end end)")
	checks(t, declared+"f(function() f(function() return "+most+" end) return\na60 end)", 2, api.ErrLimit)
	checks(t, declared+"f(function() f(a60) return function() return a0,\n"+most+" end end)", 2, api.ErrLimit)
	accepts(t, declared+"f(function() local b return function() return b, "+sequence(59, "a")+" end end)")
	checks(t, declared+"f(function() local b return function() return b,\n"+sequence(59, "a")+",\na59 end end)", 3, api.ErrLimit)
	// The first row of the table counts.
	checks(t, declared+"f(function() f("+most+")\nc = 1 end)", 2, api.ErrConst)
	checks(t, declared+"f(function() f("+most+")\na60 = 1 end)", 2, api.ErrLimit)
}

// TestWrongTrees has chunks that tree.Check does not accept.
func TestWrongTrees(t *testing.T) {
	deep := []api.Stat{}
	for range 64 {
		deep = []api.Stat{{Kind: api.SDo, Line: 1, Blocks: [][]api.Stat{deep}}}
	}
	for _, x := range []struct {
		b []api.Stat
		e api.Errno
	}{
		{[]api.Stat{{Line: 5}}, api.ErrForm},
		{[]api.Stat{{Kind: api.SLocal, Line: 5}}, api.ErrForm},
		{[]api.Stat{{Kind: api.SGoto, Line: 5, Label: "end"}}, api.ErrName},
		{[]api.Stat{{Kind: api.SBreak, Line: 5}, {Kind: api.SGoto, Line: 6}}, api.ErrName},
		{[]api.Stat{{Kind: api.SRepeat}}, api.ErrForm},
		{[]api.Stat{{Kind: api.SBreak, Line: -1}}, api.ErrForm},
		{make([]api.Stat, api.MaxNodes+1), api.ErrLimit},
		{deep, api.ErrLimit},
	} {
		if line, e := scope.Check(x.b); line != 0 || e != x.e || e != tree.Check(x.b) {
			t.Errorf("Check: line %d, error %d; want error %d", line, int(e), int(x.e))
		}
		for _, fn := range []int{-1, 0, 1} {
			wantFailure(t, x.b, fn, x.e)
		}
	}
}

// TestNumbersOfFunctions has numbers that no function has.
func TestNumbersOfFunctions(t *testing.T) {
	for _, x := range []struct {
		text  string
		count int
	}{{"", 1}, {"f()", 1}, {"f(function() return function() end end, function() end)", 4}} {
		b := read(t, x.text)
		for fn := range x.count {
			if _, e := scope.Locals(b, fn); e != api.OK {
				t.Errorf("function %d of %s: %d", fn, x.text, int(e))
			}
		}
		for _, fn := range []int{x.count, x.count + 1, -1, math.MaxInt, math.MinInt} {
			wantNoFunction(t, b, fn, api.ErrRange)
		}
	}
	wantFailure(t, read(t, "break"), 9, api.ErrForm)
}

// texts returns the texts of elements, with a separator between them.
func texts[T any](l []T, text func(x T) string) string {
	var words []string
	for _, x := range l {
		words = append(words, text(x))
	}
	return strings.Join(words, " ")
}

// useText returns a text of a use: the line, the name, the function, the kind and the index, and = if it is set.
func useText(u api.Use) string {
	kind := []string{"?", "local", "up", "global"}[u.Kind]
	s := strconv.Itoa(u.Line) + ":" + u.Name + ":" + strconv.Itoa(u.Func) + ":" + kind + strconv.Itoa(u.Index)
	if u.Set {
		s += "="
	}
	return s
}

// upText returns a text of an upvalue: the name, and where it is in the enclosing function.
func upText(u api.Up) string {
	if u.Local {
		return u.Name + ":local" + strconv.Itoa(u.Index)
	}
	return u.Name + ":up" + strconv.Itoa(u.Index)
}

// localText returns a text of a local variable.
func localText(x api.Local) string { return x.Name + []string{"", "<const>", "<close>"}[x.Attr] }

// jumpText returns a text of a jump: the function, the line, the label, the number of variables, and - if it goes back.
func jumpText(x scope.Jump) string {
	s := strconv.Itoa(x.Func) + ":" + strconv.Itoa(x.Line) + ":" + x.Label + ":" + strconv.Itoa(x.Out)
	if x.Back {
		s += "-"
	}
	return s
}

// TestUses covers P8.2.
func TestUses(t *testing.T) {
	for _, x := range [][2]string{
		{"", ""},
		{"x = y", "1:x:0:global0= 1:y:0:global0"},
		{"x, y.z[w] =\nv, u", "1:x:0:global0= 1:y:0:global0 1:w:0:global0 2:v:0:global0 2:u:0:global0"},
		{"local a = a a = a", "1:a:0:global0 1:a:0:local0= 1:a:0:local0"},
		{"local a, b = b, a a, b = b", "1:b:0:global0 1:a:0:global0 1:a:0:local0= 1:b:0:local1= 1:b:0:local1"},
		{"local a local a, a f(a)", "1:f:0:global0 1:a:0:local2"},
		{"local a do local a f(a) end f(a)", "1:f:0:global0 1:a:0:local1 1:f:0:global0 1:a:0:local0"},
		{"do local a end f(a)", "1:f:0:global0 1:a:0:global0"},
		{"local function a() a() end a()", "1:a:1:up0 1:a:0:local0"},
		{"local a = function() a() end a()", "1:a:1:global0 1:a:0:local0"},
		{"function a() a() end", "1:a:0:global0= 1:a:1:global0"},
		{"local a function a() a() end", "1:a:0:local0= 1:a:1:up0"},
		{"function a.b:c(d) self(d, c) end", "1:a:0:global0 1:self:1:local0 1:d:1:local1 1:c:1:global0"},
		{"while a do local a f(a) end f(a)", "1:a:0:global0 1:f:0:global0 1:a:0:local0 1:f:0:global0 1:a:0:global0"},
		{"repeat local a, b f(a)\nuntil b f(b)", "1:f:0:global0 1:a:0:local0 2:b:0:local1 2:f:0:global0 2:b:0:global0"},
		{"repeat local function a() end until a", "1:a:0:local0"},
		{"repeat do local a end until a", "1:a:0:global0"},
		{"if a then local a elseif a then local b f(a) else f(b) end", "1:a:0:global0 1:a:0:global0 1:f:0:global0 1:a:0:global0 1:f:0:global0 1:b:0:global0"},
		{"for a = a, b, c do f(a) end f(a)", "1:a:0:global0 1:b:0:global0 1:c:0:global0 1:f:0:global0 1:a:0:local0 1:f:0:global0 1:a:0:global0"},
		{"for a, b in a, b do a = b end b = 1", "1:a:0:global0 1:b:0:global0 1:a:0:local0= 1:b:0:local1 1:b:0:global0="},
		{"f(function(a, a) return a end)", "1:f:0:global0 1:a:1:local1"},
		{"local a local b f(function() return b, a, b end)", "1:f:0:global0 1:b:1:up0 1:a:1:up1 1:b:1:up0"},
		{"local a f(function() local b f(function() b = a end) return a end)", "1:f:0:global0 1:f:1:global0 1:b:2:up0= 1:a:2:up1 1:a:1:up0"},
		{"local a f(function(a) f(function() return a end) end, a)", "1:f:0:global0 1:f:1:global0 1:a:2:up0 1:a:0:local0"},
		{"return {a, b = c, [d] = -e, f:g(\nh), (i())}", "1:a:0:global0 1:c:0:global0 1:d:0:global0 1:e:0:global0 1:f:0:global0 2:h:0:global0 2:i:0:global0"},
		{"goto a ::a:: local a <const>, b <close> = 1 f(a, b)", "1:f:0:global0 1:a:0:local0 1:b:0:local1"},
	} {
		l, e := scope.Uses(read(t, x[0]))
		if got := texts(l, useText); got != x[1] || e != api.OK {
			t.Errorf("Uses(%s): %s, error %d; want %s", x[0], got, int(e), x[1])
		}
	}
}

// TestFunctions covers P8.3, P8.4 and P8.6: what the functions of a chunk have, as upvalues, local variables and
// captured ones.
func TestFunctions(t *testing.T) {
	for _, x := range []struct {
		text  string
		funcs []string
	}{
		{"", []string{"||[]"}},
		{"local a, b = 1 local function f() return b end", []string{"|a b f|[1]", "b:local1||[]"}},
		{"local a <const>, b <close>, c local a", []string{"|a<const> b<close> c a|[]"}},
		{"for i = 1, 2 do local x end for k, v in f do end repeat local y until y do local z end", []string{"|i x k v y z|[]"}},
		{"f(function(a, b, ...) local c = function(d) local e end local g end) local h", []string{"|h|[]", "|a b c g|[]", "|d e|[]"}},
		{"function a:b(c) end", []string{"||[]", "|self c|[]"}},
		{"local a f(function() f(function() f(function() return a end) end) end)", []string{"|a|[0]", "a:local0||[]", "a:up0||[]", "a:up0||[]"}},
		{"local a, b f(function() f(function() return b end) return a, b end)", []string{"|a b|[0 1]", "b:local1 a:local0||[]", "b:up0||[]"}},
		{"local a, b, c f(function() f(c) f(function() f(b) end) end, function() return a, c end)", []string{"|a b c|[0 1 2]", "c:local2 b:local1||[]", "b:up1||[]", "a:local0 c:local2||[]"}},
		{"local a f(function() local a f(a) f(function() return a end) end)", []string{"|a|[]", "|a|[0]", "a:local0||[]"}},
		{"local a local a f(function() return a end)", []string{"|a a|[1]", "a:local1||[]"}},
		{"local a f(function() return a end) local a f(function() f(function() a = 1 end) end)", []string{"|a a|[0 1]", "a:local0||[]", "a:local1||[]", "a:up0||[]"}},
		{"local a f(function() f(a) local a return function() f(a) end, a end)", []string{"|a|[0]", "a:local0|a|[0]", "a:local0||[]"}},
		{"local a f(function(b) return function(c) a, b = c, c return function() return c, b, a end end end)", []string{"|a|[0]", "a:local0|b|[0]", "a:up0 b:local0|c|[0]", "c:local0 b:up1 a:up0||[]"}},
		{"local function f() return f end", []string{"|f|[0]", "f:local0||[]"}},
		{"for i = 1, 2 do f(function() return i end) end", []string{"|i|[0]", "i:local0||[]"}},
		{"repeat local x until f(function() return x end)", []string{"|x|[0]", "x:local0||[]"}},
		{"local x t[function() x() end] = function(y) y() end", []string{"|x|[0]", "x:local0||[]", "|y|[]"}},
	} {
		b := read(t, x.text)
		for fn, want := range x.funcs {
			ups, e := scope.Ups(b, fn)
			locals, e2 := scope.Locals(b, fn)
			captured, e3 := scope.Captured(b, fn)
			got := texts(ups, upText) + "|" + texts(locals, localText) + "|[" + texts(captured, strconv.Itoa) + "]"
			if got != want || e != api.OK || e2 != api.OK || e3 != api.OK {
				t.Errorf("function %d of %s: %s; want %s", fn, x.text, got, want)
			}
		}
		wantNoFunction(t, b, len(x.funcs), api.ErrRange)
	}
}

// TestJumps covers P8.5.
func TestJumps(t *testing.T) {
	for _, x := range [][2]string{
		{"", ""},
		{"while x do local a, b break end", "0:1::2"},
		{"local a while x do local b\ndo local c break end break end", "0:2::2 0:2::1"},
		{"repeat local a break until a", "0:1::1"},
		{"for i = 1, 2 do break end", "0:1::1"},
		{"for i, k in f do local x do local y break end end", "0:1::4"},
		{"for i = 1, 2 do for k = 1, 2 do break end break end", "0:1::1 0:1::1"},
		{"while x do local a f(function() local b while y do local c, d, e break end end) break end", "1:1::3 0:1::1"},
		{"::a:: goto a", "0:1:a:0-"},
		{"goto a ::a::", "0:1:a:0"},
		{"local x ::a:: local y goto a", "0:1:a:1-"},
		{"local x ::a:: do local y, z goto a end", "0:1:a:2-"},
		{"local x do local y goto a end ::a:: f()", "0:1:a:1"},
		{"local x goto a ::a:: f()", "0:1:a:0"},
		// By the end label rule, x is out of scope at the label.
		{"local x goto a ::a::", "0:1:a:1"},
		{"local x goto a local y ::a:: ::b::", "0:1:a:1"},
		{"local x do local y goto a local z ::a:: end", "0:1:a:1"},
		{"for i = 1, 2 do local x\ngoto a local y ::a:: end", "0:2:a:1"},
		{"for i in f do do local x goto a end local y ::a:: end", "0:1:a:1"},
		{"f(function(p) local x goto a ::a:: end)", "1:1:a:1"},
		{"f(function(p, q) local x, y ::a:: goto a end)", "1:1:a:0-"},
		{"repeat local x goto a ::a:: until x", "0:1:a:0"},
		{"repeat local x do local y goto a end ::a:: until x", "0:1:a:1"},
		{"while x do local y goto a ::a:: end", "0:1:a:1"},
		// A label before the end of the block.
		{"local x goto a ::a:: return", "0:1:a:0"},
		{"local x local function g() end ::a:: local y do local z goto a end ::b::", "0:1:a:2-"},
		// The innermost label counts.
		{"do local x ::a:: local y goto a end local z ::a:: goto a", "0:1:a:1- 0:1:a:0-"},
		{"local x do local y goto a do local z goto a end ::a:: end ::a::", "0:1:a:1 0:1:a:2"},
		{"goto b ::a:: goto c ::b:: goto a ::c::", "0:1:b:0 0:1:c:0 0:1:a:0-"},
		{"goto a f(function()\ngoto b ::b:: while x do\nbreak end end) ::a::", "0:1:a:0 1:2:b:0 1:3::0"},
		{"local a, a, a do local a while x do local a break end goto b end ::b::", "0:1::1 0:1:b:4"},
	} {
		l, e := scope.Jumps(read(t, x[0]))
		if got := texts(l, jumpText); got != x[1] || e != api.OK {
			t.Errorf("Jumps(%s): %s, error %d; want %s", x[0], got, int(e), x[1])
		}
	}
}

// TestJumpsInAllBlocks compares the results for all short lists of statements in all kinds of blocks with the definitions.
func TestJumpsInAllBlocks(t *testing.T) {
	parts := []string{"goto x", "::x::", "local a", "local function b() end", "do goto x end", "do local c ::x:: end", "do local c, d goto y end", "::y::", "f()"}
	around := []string{"%", "local e do % end", "repeat % until f", "for i, k in f do % end", "while f do local g % end h()", "local e ::y:: f(function(p, q) % end)", "if f then % else ::x:: end ::x::"}
	var grow func(list []string)
	grow = func(list []string) {
		for _, s := range around {
			text := strings.ReplaceAll(s, "%", strings.Join(list, " "))
			agrees(t, text, read(t, text))
		}
		for _, s := range parts {
			if len(list) < 4 {
				grow(append(slices.Clone(list), s))
			}
		}
	}
	grow(nil)
}

// TestNothingIsKept checks that the arguments stay as they are, and that the results are new.
func TestNothingIsKept(t *testing.T) {
	text := "local a <const>, b = 1 local function f(c) ::x:: goto x return a, b, c end while f do break end"
	b := read(t, text)
	for range 2 {
		uses, _ := scope.Uses(b)
		ups, _ := scope.Ups(b, 1)
		locals, _ := scope.Locals(b, 0)
		jumps, _ := scope.Jumps(b)
		captured, _ := scope.Captured(b, 0)
		got := texts(uses, useText) + "|" + texts(ups, upText) + "|" + texts(locals, localText) + "|" + texts(jumps, jumpText) + "|" + texts(captured, strconv.Itoa)
		want := "1:a:1:up0 1:b:1:up1 1:c:1:local0 1:f:0:local2|a:local0 b:local1|a<const> b f|1:1:x:0- 0:1::0|0 1"
		if got != want {
			t.Errorf("%s; want %s", got, want)
		}
		clear(uses)
		clear(ups)
		clear(locals)
		clear(jumps)
		clear(captured)
	}
	if !tree.Same(b, read(t, text)) {
		t.Errorf("the chunk is changed")
	}
}
