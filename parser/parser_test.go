package parser_test

import (
	"strings"
	"testing"

	"scripting/api"
	"scripting/lexer"
	"scripting/parser"
	"scripting/tree"
)

var plain, lined = view{}, view{lines: true}

func TestChunkExamples(t *testing.T) {
	b, _, e := parser.Chunk("x = 1 + y")
	if e != api.OK || len(b) != 1 || b[0].Kind != api.SAssign || len(b[0].Right) != 1 || b[0].Right[0].Kind != api.EBinary {
		t.Errorf("Chunk: %v, %d", b, int(e))
	}
	fails(t, "x = = 1", 1, api.ErrForm)
	reads(t, plain, "x = 1 + y", "[set x = (+ 1 y)]")
	readsExpr(t, plain, "-2 ^ 2", "(neg (^ 2 2))")
}

func TestStatements(t *testing.T) {
	for _, c := range []struct{ text, want string }{
		{"", ""},
		{" -- a remark", ""},
		{";", ""},
		{";;; break ;; break ;", "[break] [break]"},
		{"local a", "[local a]"},
		{"local a, b, c", "[local a b c]"},
		{"local a, b = 1", "[local a b 1]"},
		{"local a = 1, 2, f()", "[local a 1 2 (call f)]"},
		{"local a <const> = 1", "[local a<const> 1]"},
		{"local a <close>, b, c<const>", "[local a<close> b c<const>]"},
		{"local const, close = const", "[local const close const]"},
		{"local const <const>, close <close>", "[local const<const> close<close>]"},
		{"local function f() end", "[localfunction f (function \"f\" <> {})]"},
		{"local function f(a, b) return a end", "[localfunction f (function \"f\" <a b> {[return a]})]"},
		{"local function f(...) end", "[localfunction f (function \"f\" <...> {})]"},
		{"local function self(self, ...) end", "[localfunction self (function \"self\" <self...> {})]"},
		{"local f = function() end", "[local f (function \"\" <> {})]"},
		{"function f() end", "[set f = (function \"f\" <> {})]"},
		{"function f(a) end", "[set f = (function \"f\" <a> {})]"},
		{"function a.b() end", "[set (index a \"b\") = (function \"a.b\" <> {})]"},
		{"function a.b.c(x, ...) end", "[set (index (index a \"b\") \"c\") = (function \"a.b.c\" <x...> {})]"},
		{"function a:b() end", "[set (index a \"b\") = (function \"a:b\" <self> {})]"},
		{"function a.b:c(x, y) end", "[set (index (index a \"b\") \"c\") = (function \"a.b:c\" <self x y> {})]"},
		{"function a:b(...) end", "[set (index a \"b\") = (function \"a:b\" <self...> {})]"},
		{"function a:b(self) end", "[set (index a \"b\") = (function \"a:b\" <self self> {})]"},
		{"function a.b(self) end", "[set (index a \"b\") = (function \"a.b\" <self> {})]"},
		{"f = function() end", "[set f = (function \"\" <> {})]"},
		{"a.b = function(self) end", "[set (index a \"b\") = (function \"\" <self> {})]"},
		{"do end", "[block {}]"},
		{"do break do ; end end", "[block {[break] [block {}]}]"},
		{"while a do end", "[while a {}]"},
		{"while a do b() end", "[while a {[do (call b)]}]"},
		{"repeat until a", "[repeat a {}]"},
		{"repeat break until a b()", "[repeat a {[break]}] [do (call b)]"},
		{"repeat return until a", "[repeat a {[return]}]"},
		{"if a then end", "[if a {}]"},
		{"if a then break else end", "[if a {[break]} {}]"},
		{"if a then elseif b then break end", "[if a b {} {[break]}]"},
		{"if a then elseif b then elseif c then else break end", "[if a b c {} {} {} {[break]}]"},
		{"if a then else if b then end end", "[if a {} {[if b {}]}]"},
		{"if a then return elseif b then return 1 else return; end", "[if a b {[return]} {[return 1]} {[return]}]"},
		{"for i = 1, 2 do end", "[for i 1 2 {}]"},
		{"for i = 1, 2, 3 do break end", "[for i 1 2 3 {[break]}]"},
		{"for k in t do end", "[forin k t {}]"},
		{"for k, v, w in f, s, c, d, e do break end", "[forin k v w f s c d e {[break]}]"},
		{"break break", "[break] [break]"},
		{"goto a", "[goto a]"},
		{"goto continue ::continue::", "[goto continue] [label continue]"},
		{":: a :: :: b ::", "[label a] [label b]"},
		{"goto a (f)()", "[goto a] [do (call f)]"},
		{"a = 1", "[set a = 1]"},
		{"a, b.c, d[e] = 1, ...", "[set a (index b \"c\") (index d e) = 1 ...]"},
		{"a = b, c d = e", "[set a = b c] [set d = e]"},
		{"a().b = 1", "[set (index (call a) \"b\") = 1]"},
		{"a:b().c, a\"\".d = 1", "[set (index (method b a) \"c\") (index (call a \"\") \"d\") = 1]"},
		{"(a).b = 1", "[set (index a \"b\") = 1]"},
		{"(a.b)[1] = 1", "[set (index (index a \"b\") 1) = 1]"},
		{"(f()).b = 1", "[set (index (paren (call f)) \"b\") = 1]"},
		{"(...)[1] = 1", "[set (index (paren ...) 1) = 1]"},
		{"a, (b)[1] = 1", "[set a (index b 1) = 1]"},
		{"(1 + a).b = 1", "[set (index (+ 1 a) \"b\") = 1]"},
		{"f()", "[do (call f)]"},
		{"f() g()", "[do (call f)] [do (call g)]"},
		{"f()()", "[do (call (call f))]"},
		{"f.g()", "[do (call (index f \"g\"))]"},
		{"f:g()", "[do (method g f)]"},
		{"f{} g''", "[do (call f (table))] [do (call g \"\")]"},
		{"(f)()", "[do (call f)]"},
		{"(f())()", "[do (call (paren (call f)))]"},
		{"(...)()", "[do (call (paren ...))]"},
		{"(function() end)()", "[do (call (function \"\" <> {}))]"},
		{"('x'):rep(2)", "[do (method rep \"x\" 2)]"},
		{"({}){}", "[do (call (table) (table))]"},
		{"((f))()", "[do (call f)]"},
		{"return", "[return]"},
		{"return;", "[return]"},
		{"return 1", "[return 1]"},
		{"return a, f(), ...;", "[return a (call f) ...]"},
		{"return (f())", "[return (paren (call f))]"},
		{"do return end break", "[block {[return]}] [break]"},
	} {
		reads(t, plain, c.text, c.want)
	}
}

// TestGreed checks that a statement ends only where no suffix can follow.
func TestGreed(t *testing.T) {
	for _, c := range []struct{ text, want string }{
		{"x = a (b).c", "[set x = (index (call a b) \"c\")]"},
		{"x = a\n(b).c()", "[set x = (call (index (call a b) \"c\"))]"},
		{"x = a;(b).c = 1", "[set x = a] [set (index b \"c\") = 1]"},
		{"f()\n(g)()", "[do (call (call (call f) g))]"},
		{"f();(g)()", "[do (call f)] [do (call g)]"},
		{"local x = a {} [1] 's' :m() .b", "[local x (index (method m (call (index (call a (table)) 1) \"s\")) \"b\")]"},
		{"x = 's' (f)()", "[set x = \"s\"] [do (call f)]"},
		{"x = {} (f)()", "[set x = (table)] [do (call f)]"},
		{"x = 1 (f)()", "[set x = 1] [do (call f)]"},
		{"x = nil (f)()", "[set x = nil] [do (call f)]"},
		{"x = ... (f)()", "[set x = ...] [do (call f)]"},
		{"x = function() end (f)()", "[set x = (function \"\" <> {})] [do (call f)]"},
		{"x = -a (f)()", "[set x = (neg (call (call a f)))]"},
		{"function f() end (f)()", "[set f = (function \"f\" <> {})] [do (call f)]"},
		{"local function f() end (f)()", "[localfunction f (function \"f\" <> {})] [do (call f)]"},
		{"do end (f)()", "[block {}] [do (call f)]"},
		{"repeat until a (f)()", "[repeat (call (call a f)) {}]"},
		{"local a (f)()", "[local a] [do (call f)]"},
		{"local a <const> (f)()", "[local a<const>] [do (call f)]"},
		{"::a:: (f)()", "[label a] [do (call f)]"},
		{"break (f)()", "[break] [do (call f)]"},
		{"return (f)()", "[return (call f)]"},
		{"if a then (f)() elseif (b) then (f)() else (f)() end", "[if a b {[do (call f)]} {[do (call f)]} {[do (call f)]}]"},
		{"f 'x' 'y' {} 'z'", "[do (call (call (call (call f \"x\") \"y\") (table)) \"z\")]"},
	} {
		reads(t, plain, c.text, c.want)
	}
	fails(t, "x = a (b).c = 1", 1, api.ErrForm)
	fails(t, "\nx = a\n(b).c\n= 1", 4, api.ErrForm)
	fails(t, "f()\n(g) = 1", 2, api.ErrForm)
}

func TestExpressions(t *testing.T) {
	for _, c := range []struct{ text, want string }{
		{"nil", "nil"},
		{"true", "true"},
		{"false", "false"},
		{"0", "0"},
		{"12", "12"},
		{"007", "7"},
		{"1.25", "5/4"},
		{"0x1F", "31"},
		{"2147483647", "2147483647"},
		{"''", "\"\""},
		{"'a\\n\\65'", "\"a\\nA\""},
		{"'end'", "\"end\""},
		{"...", "..."},
		{"a", "a"},
		{"const", "const"},
		{"a.b", "(index a \"b\")"},
		{"a.b.c", "(index (index a \"b\") \"c\")"},
		{"a[b]", "(index a b)"},
		{"a[1][2].c", "(index (index (index a 1) 2) \"c\")"},
		{"a['b']", "(index a \"b\")"},
		{"a.const", "(index a \"const\")"},
		{"f()", "(call f)"},
		{"f(1)", "(call f 1)"},
		{"f(1, a, ...)", "(call f 1 a ...)"},
		{"f((...))", "(call f (paren ...))"},
		{"f{}", "(call f (table))"},
		{"f{1}", "(call f (table (item 1)))"},
		{"f'x'", "(call f \"x\")"},
		{"f({})", "(call f (table))"},
		{"f('x')", "(call f \"x\")"},
		{"f()()", "(call (call f))"},
		{"f.g.h()", "(call (index (index f \"g\") \"h\"))"},
		{"a:m()", "(method m a)"},
		{"a:m(1, 2)", "(method m a 1 2)"},
		{"a:m{}", "(method m a (table))"},
		{"a:m''", "(method m a \"\")"},
		{"a.b:m():n()", "(method n (method m (index a \"b\")))"},
		{"('x'):m()", "(method m \"x\")"},
		{"(1).x", "(index 1 \"x\")"},
		{"(nil)()", "(call nil)"},
		{"(a)", "a"},
		{"((a.b))", "(index a \"b\")"},
		{"(f())", "(paren (call f))"},
		{"((f()))", "(paren (call f))"},
		{"(((...)))", "(paren ...)"},
		{"(a:m())", "(paren (method m a))"},
		{"((f())())", "(paren (call (paren (call f))))"},
		{"((f()).x)", "(index (paren (call f)) \"x\")"},
		{"(f() + 1)", "(+ (call f) 1)"},
		{"((f()) + 1)", "(+ (paren (call f)) 1)"},
		{"(f)()", "(call f)"},
		{"(function() end)", "(function \"\" <> {})"},
		{"function() end", "(function \"\" <> {})"},
		{"function(a) end", "(function \"\" <a> {})"},
		{"function(a, b, ...) return ... end", "(function \"\" <a b...> {[return ...]})"},
		{"function(...) end", "(function \"\" <...> {})"},
		{"function(a, a) ; end", "(function \"\" <a a> {})"},
		{"function() return function() end end", "(function \"\" <> {[return (function \"\" <> {})]})"},
	} {
		readsExpr(t, plain, c.text, c.want)
	}
}

func TestTables(t *testing.T) {
	for _, c := range []struct{ text, want string }{
		{"{}", "(table)"},
		{"{1}", "(table (item 1))"},
		{"{1,}", "(table (item 1))"},
		{"{1;}", "(table (item 1))"},
		{"{1, 2; 3}", "(table (item 1) (item 2) (item 3))"},
		{"{a}", "(table (item a))"},
		{"{a, b}", "(table (item a) (item b))"},
		{"{a = 1}", "(table (pair \"a\" 1))"},
		{"{a = b = c}", ""},
		{"{a == b}", "(table (item (== a b)))"},
		{"{a = b == c}", "(table (pair \"a\" (== b c)))"},
		{"{['a'] = 1}", "(table (pair \"a\" 1))"},
		{"{[a] = 1}", "(table (pair a 1))"},
		{"{[1 + 2] = 1, [...] = ...}", "(table (pair (+ 1 2) 1) (pair ... ...))"},
		{"{a.b, a[1], a()}", "(table (item (index a \"b\")) (item (index a 1)) (item (call a)))"},
		{"{(a), (a()), ...}", "(table (item a) (item (paren (call a))) (item ...))"},
		{"{{}, {{}}}", "(table (item (table)) (item (table (item (table)))))"},
		{"{function() end, f = function() end}", "(table (item (function \"\" <> {})) (pair \"f\" (function \"\" <> {})))"},
		{"{'a', 'b'}", "(table (item \"a\") (item \"b\"))"},
		{"{const = 1, close = 2; self = 3,}", "(table (pair \"const\" 1) (pair \"close\" 2) (pair \"self\" 3))"},
		{"{x = 1, y, [3] = 4; z = 5; 6}", "(table (pair \"x\" 1) (item y) (pair 3 4) (pair \"z\" 5) (item 6))"},
	} {
		if c.want == "" {
			failsExpr(t, c.text, 1, api.ErrForm)
		} else {
			readsExpr(t, plain, c.text, c.want)
		}
	}
}

// levels has the binary operators from the loosest ones on.
var levels = []string{"or", "and", "< > <= >= ~= ==", "|", "~", "&", "<< >>", "..", "+ -", "* / // %", "^"}

// TestBinary tries all pairs of binary operators.
func TestBinary(t *testing.T) {
	for i, row := range levels {
		for _, a := range strings.Fields(row) {
			readsExpr(t, plain, "x "+a+" y", "("+a+" x y)")
			readsExpr(t, plain, "(x "+a+" y)", "("+a+" x y)")
			readsExpr(t, plain, "'"+a+"' "+a+" '"+a+"'", "("+a+" \""+a+"\" \""+a+"\")")
			for k, other := range levels {
				for _, b := range strings.Fields(other) {
					left, right := "("+b+" ("+a+" x y) z)", "("+a+" x ("+b+" y z))"
					want := left
					if k > i || k == i && (a == ".." || a == "^") {
						want = right
					}
					readsExpr(t, plain, "x "+a+" y "+b+" z", want)
					readsExpr(t, plain, "(x "+a+" y) "+b+" z", left)
					readsExpr(t, plain, "x "+a+" (y "+b+" z)", right)
				}
			}
		}
	}
}

func TestUnary(t *testing.T) {
	words := map[string]string{"-": "neg", "not": "not", "#": "len", "~": "bnot"}
	for sign, word := range words {
		readsExpr(t, plain, sign+" x", "("+word+" x)")
		readsExpr(t, plain, sign+" x.y", "("+word+" (index x \"y\"))")
		readsExpr(t, plain, sign+" x()", "("+word+" (call x))")
		readsExpr(t, plain, sign+" 'x'", "("+word+" \"x\")")
		readsExpr(t, plain, sign+" x ^ y", "("+word+" (^ x y))")
		readsExpr(t, plain, "x ^ "+sign+" y", "(^ x ("+word+" y))")
		readsExpr(t, plain, "x ^ "+sign+" y ^ z", "(^ x ("+word+" (^ y z)))")
		readsExpr(t, plain, "("+sign+" x) ^ y", "(^ ("+word+" x) y)")
		for other, second := range words {
			readsExpr(t, plain, sign+" "+other+" x", "("+word+" ("+second+" x))")
		}
		for _, row := range levels[:len(levels)-1] {
			for _, op := range strings.Fields(row) {
				readsExpr(t, plain, sign+" x "+op+" y", "("+op+" ("+word+" x) y)")
				readsExpr(t, plain, "x "+op+" "+sign+" y", "("+op+" x ("+word+" y))")
				readsExpr(t, plain, "x ^ "+sign+" y "+op+" z", "("+op+" (^ x ("+word+" y)) z)")
				readsExpr(t, plain, sign+" (x "+op+" y)", "("+word+" ("+op+" x y))")
			}
		}
	}
}

func TestMixedOperators(t *testing.T) {
	for _, c := range []struct{ text, want string }{
		{"2^-3", "(^ 2 (neg 3))"},
		{"-2^2", "(neg (^ 2 2))"},
		{"2^3^2", "(^ 2 (^ 3 2))"},
		{"2^-3^2", "(^ 2 (neg (^ 3 2)))"},
		{"-2^-2", "(neg (^ 2 (neg 2)))"},
		{"- - 2", "(neg (neg 2))"},
		{"a .. b .. c", "(.. a (.. b c))"},
		{"a .. b + c .. d", "(.. a (.. (+ b c) d))"},
		{"1 - 2 - 3", "(- (- 1 2) 3)"},
		{"1 - (2 - 3)", "(- 1 (- 2 3))"},
		{"a ~ b", "(~ a b)"},
		{"a ~ ~b", "(~ a (bnot b))"},
		{"a ~= b", "(~= a b)"},
		{"~a ~= ~b", "(~= (bnot a) (bnot b))"},
		{"a or b and c == d", "(or a (and b (== c d)))"},
		{"a == b and c or d", "(or (and (== a b) c) d)"},
		{"not a == b", "(== (not a) b)"},
		{"not a.b:c()", "(not (method c (index a \"b\")))"},
		{"#a + 1", "(+ (len a) 1)"},
		{"1 .. 2 == '12'", "(== (.. 1 2) \"12\")"},
		{"1 + 2 << 3 & 4 ~ 5 | 6 < 7 and 8 or 9", "(or (and (< (| (~ (& (<< (+ 1 2) 3) 4) 5) 6) 7) 8) 9)"},
		{"9 or 8 and 7 < 6 | 5 ~ 4 & 3 << 2 .. 1 + 0 * -a ^ b", "(or 9 (and 8 (< 7 (| 6 (~ 5 (& 4 (<< 3 (.. 2 (+ 1 (* 0 (neg (^ a b))))))))))))"},
		{"a.b ^ c()", "(^ (index a \"b\") (call c))"},
		{"{} ^ function() end", "(^ (table) (function \"\" <> {}))"},
		{"... ^ ...", "(^ ... ...)"},
		{"(...) ^ (f())", "(^ (paren ...) (paren (call f)))"},
		{"a < b < c", "(< (< a b) c)"},
	} {
		readsExpr(t, plain, c.text, c.want)
	}
}

// TestLines has each token in a line of its own, so that the first one is in line 1.
func TestLines(t *testing.T) {
	for _, c := range []struct{ text, want string }{
		{"x = 1", "1:[set 1:x = 3:1]"},
		{"; ; x , y = 1 , 2", "3:[set 3:x 5:y = 7:1 9:2]"},
		{"local x < const > = nil", "1:[local x<const> 7:nil]"},
		{"local function f ( a ) end", "1:[localfunction f 2:(function 2:\"f\" <a> {})]"},
		{"; function f ( ) break end", "2:[set 3:f = 2:(function 2:\"f\" <> {6:[break]})]"},
		{"function a . b : c ( ) end", "1:[set 5:(index 3:(index 2:a 4:\"b\") 6:\"c\") = 1:(function 1:\"a.b:c\" <self> {})]"},
		{"x = function ( ) return end", "1:[set 1:x = 3:(function 3:\"\" <> {6:[return]})]"},
		{"do do end end", "1:[block {2:[block {}]}]"},
		{"while a do break end", "1:[while 2:a {4:[break]}]"},
		{"repeat break until a", "1:[repeat 4:a {2:[break]}]"},
		{"if a then break elseif b then break else break end", "1:[if 2:a 6:b {4:[break]} {8:[break]} {10:[break]}]"},
		{"for i = a , b , c do break end", "1:[for i 4:a 6:b 8:c {10:[break]}]"},
		{"for i , k in a , b do break end", "1:[forin i k 6:a 8:b {10:[break]}]"},
		{"break ; goto a :: a ::", "1:[break] 3:[goto a] 5:[label a]"},
		{"return ; ", "1:[return]"},
		{"return true , false", "1:[return 2:true 4:false]"},
		{"f ( )", "1:[do 2:(call 1:f)]"},
		{"f ( a , b ) ( c )", "1:[do 7:(call 2:(call 1:f 3:a 5:b) 8:c)]"},
		{"f { } 'x'", "1:[do 4:(call 2:(call 1:f 2:(table)) 4:\"x\")]"},
		{"a : b ( c )", "1:[do 4:(method b 1:a 5:c)]"},
		{"a : b { } : c 'x'", "1:[do 8:(method c 4:(method b 1:a 4:(table)) 8:\"x\")]"},
		{"( f ) ( )", "1:[do 4:(call 2:f)]"},
		{"( f ( ) ) ( )", "1:[do 6:(call 1:(paren 3:(call 2:f)))]"},
		{"( a ) . b = 1", "1:[set 4:(index 2:a 5:\"b\") = 7:1]"},
		{"a . b , c [ d ] = 1", "1:[set 2:(index 1:a 3:\"b\") 6:(index 5:c 7:d) = 10:1]"},
		{"a . b [ 1 ] . c = 1", "1:[set 7:(index 4:(index 2:(index 1:a 3:\"b\") 5:1) 8:\"c\") = 10:1]"},
		{"return ( ( ( f ( ) ) ) )", "1:[return 4:(paren 6:(call 5:f))]"},
		{"return ( ( ... ) )", "1:[return 3:(paren 4:...)]"},
		{"return ( ( ( f ( ) ) . a ) )", "1:[return 9:(index 4:(paren 6:(call 5:f)) 10:\"a\")]"},
		{"return a + b", "1:[return 3:(+ 2:a 4:b)]"},
		{"return a and b or c", "1:[return 5:(or 3:(and 2:a 4:b) 6:c)]"},
		{"return a ^ b ^ c", "1:[return 3:(^ 2:a 5:(^ 4:b 6:c))]"},
		{"return ( a + b ) * c", "1:[return 7:(* 4:(+ 3:a 5:b) 8:c)]"},
		{"return - # a ^ not b", "1:[return 2:(neg 3:(len 5:(^ 4:a 6:(not 7:b))))]"},
		{"return ( ( a ) )", "1:[return 4:a]"},
		{"return { }", "1:[return 2:(table)]"},
		{"return { a ; b = c , [ d ] = e , ( f ) + g }",
			"1:[return 2:(table 3:(item 3:a) 5:(pair 5:\"b\" 7:c) 9:(pair 10:d 13:e) 15:(item 18:(+ 16:f 19:g)))]"},
		{"return { - a . b , f ( ) , }", "1:[return 2:(table 3:(item 3:(neg 5:(index 4:a 6:\"b\"))) 8:(item 9:(call 8:f)))]"},
		{"return ( function ( a ) end ) ( )", "1:[return 9:(call 3:(function 3:\"\" <a> {}))]"},
	} {
		reads(t, lined, strings.Join(strings.Fields(c.text), "\n"), c.want)
		reads(t, lined, "-- b\n\n"+c.text, inLine(c.want, 3))
	}
	readsExpr(t, lined, "a\n+\nb\n.\nc", "2:(+ 1:a 4:(index 3:b 5:\"c\"))")
	readsExpr(t, lined, "\n(\n(\nf\n(\n)\n)\n)", "3:(paren 5:(call 4:f))")
	reads(t, lined, "x = 'a\\n' --\n .. b", "1:[set 1:x = 2:(.. 1:\"a\\n\" 2:b)]")
}

// inLine returns a view with lines in which all lines are the same one.
func inLine(s string, line int) string {
	out := []byte{}
	for i := 0; i < len(s); i++ {
		end := i
		for end < len(s) && s[end] >= '0' && s[end] <= '9' {
			end++
		}
		if end > i && end < len(s) && s[end] == ':' {
			out = append(out, byte('0'+line))
			i = end
		}
		out = append(out, s[i])
	}
	return string(out)
}

// TestErrors has each token in a line of its own: the line of the error is the number of the token.
func TestErrors(t *testing.T) {
	for _, c := range []struct {
		text string
		line int
	}{
		{"x", 1}, {"x y", 2}, {"x ;", 2}, {"x = ;", 3}, {"x = = 1", 3}, {"x , = 1", 3}, {"x , y 1", 4}, {"x = 1 ,", 4}, {"x = 1 , ;", 5},
		{"= 1", 1}, {"1 = x", 1}, {"'x' = x", 1}, {"nil", 1}, {"... = 1", 1}, {"{ } = 1", 1}, {"- x = 1", 1}, {"+ x", 1}, {"1", 1}, {"'f' ( )", 1},
		{"( a ) = 1", 4}, {"( a )", 3}, {"( a ) ;", 4}, {"( ( a ) ) = 1", 6}, {"( a . b ) = 1", 6}, {"( f ( ) )", 5}, {"( f ( ) ) ;", 6},
		{"( f ( ) ) break", 6}, {"( a ) , b = 1", 4}, {"a , ( b ) = 1", 6}, {"a , ( b ) , c = 1", 6}, {"a , f ( ) = 1", 6}, {"f ( ) = 1", 4},
		{"f ( ) , a = 1", 4}, {"a : b ( ) = 1", 6}, {"f { } = 1", 4}, {"f 'x' = 1", 3}, {"f 'x' , a = 1", 3}, {"a . b", 3}, {"a . b ;", 4}, {"a [ 1 ]", 4},
		{"a [ 1 ] break", 5}, {"a . 1 = 1", 3}, {"a . end = 1", 3}, {"a . 'b' = 1", 3}, {"a [ ] = 1", 3}, {"a [ 1 , 2 ] = 1", 4}, {"a : b = 1", 4},
		{"a : b . c ( )", 4}, {"a : b", 3}, {"a : end ( )", 3}, {"f ( 1", 3}, {"f ( 1 ,", 4}, {"f ( 1 , )", 5}, {"f ( , )", 3}, {"f ( 1 2 )", 4},
		{"f ( 1 ; 2 )", 4}, {"f ( a = 1 )", 4}, {"f ( ) )", 4}, {"f ( ) end", 4},
		{"local", 1}, {"local 1", 2}, {"local end", 2}, {"local x y", 3}, {"local x ,", 3}, {"local x , 1", 4}, {"local x = ", 3}, {"local x = ;", 4},
		{"local x . y = 1", 3}, {"local x [ 1 ] = 1", 3}, {"local ( x ) = 1", 2}, {"local x < b >", 4}, {"local x < 'const' >", 4}, {"local x < end >", 4},
		{"local x < const", 4}, {"local x < close = 1", 5}, {"local x < >", 4}, {"local x < 1 >", 4}, {"local x < const > < const >", 6}, {"local ...", 2},
		{"local function", 2}, {"local function f", 3}, {"local function ( )", 3}, {"local function f . g ( )", 4}, {"local function f : g ( )", 4},
		{"local function < const > f ( )", 3}, {"local function 'f' ( )", 3}, {"local x = function f ( ) end", 5},
		{"function ( ) end", 2}, {"function f end", 3}, {"function f ( ) ", 4}, {"function f ( a , ) end", 6}, {"function f ( ... , a ) end", 5},
		{"function f ( a b ) end", 5}, {"function f ( a ... ) end", 5}, {"function f ( 1 ) end", 4}, {"function f ( , ) end", 4}, {"function f ( a = 1 ) end", 5},
		{"function a . ( ) end", 4}, {"function a : b . c ( ) end", 5}, {"function a : b : c ( ) end", 5}, {"function a [ 1 ] ( ) end", 3},
		{"function a . 1 ( ) end", 4}, {"function a 'x' end", 3}, {"function a { } end", 3}, {"function f ( ) else", 5}, {"function f ( ) until x", 5},
		{"function f ( ) return break end", 6}, {"function f ( ( a ) ) end", 4}, {"function f ( end ) end", 4}, {"function 1 ( ) end", 2},
		{"do", 1}, {"do ;", 2}, {"do else", 2}, {"do until x", 2}, {"end", 1}, {"else", 1}, {"elseif", 1}, {"until", 1}, {"then", 1}, {"in", 1}, {"do end end", 3},
		{"while", 1}, {"while do end", 2}, {"while a", 2}, {"while a then end", 3}, {"while a , b do end", 3}, {"while a do", 3}, {"while a = 1 do end", 3},
		{"repeat", 1}, {"repeat end", 2}, {"repeat until", 2}, {"repeat until ;", 3}, {"repeat else", 2}, {"repeat return 1 2 until x", 4},
		{"if", 1}, {"if then end", 2}, {"if a do end", 3}, {"if a then", 3}, {"if a then else else end", 5}, {"if a then else elseif b then end", 5},
		{"if a then elseif then end", 5}, {"if a then elseif b end", 6}, {"if a then until b", 4}, {"if a then else", 4}, {"if a then else end end", 6},
		{"for", 1}, {"for 1 = 1 , 2 do end", 2}, {"for i", 2}, {"for i do end", 3}, {"for i = 1 do end", 5}, {"for i = 1 , 2 , 3 , 4 do end", 9},
		{"for i = 1 , do end", 6}, {"for i , k = 1 , 2 do end", 5}, {"for i in do end", 4}, {"for i in a", 4}, {"for i in a then", 5}, {"for i in a do", 5},
		{"for a . b in c do end", 3}, {"for a , 1 in c do end", 4}, {"for a < const > in c do end", 3}, {"for a , in b do end", 4}, {"for ( a ) in b do end", 2},
		{"for i = 1 , 2 do else", 8}, {"for end = 1 , 2 do end", 2}, {"for 'i' in a do end", 2},
		{"break x", 2}, {"break 1", 2}, {"goto", 1}, {"goto 1", 2}, {"goto end", 2}, {"goto 'a'", 2}, {"goto ;", 2}, {"goto a b", 3},
		{"::", 1}, {":: a", 2}, {":: a :", 3}, {":: 1 ::", 2}, {":: end ::", 2}, {":: ::", 2}, {":: 'a' ::", 2}, {":: a . b ::", 3}, {": a", 1},
		{"return x y", 3}, {"return ; ;", 3}, {"return ; x = 1", 3}, {"return , 1", 2}, {"return 1 ,", 3}, {"return 1 , ;", 4}, {"return break", 2},
		{"return return", 2}, {"return x = 1", 3}, {"return end", 2}, {"return 1 end", 3}, {"do return break end", 3}, {"do return ; ; end", 4}, {"return :: a ::", 2},
		{"x = 1 +", 4}, {"x = 1 + + 2", 5}, {"x = 1 + * 2", 5}, {"x = not", 3}, {"x = - ;", 4}, {"x = #", 3}, {"x = 1 2", 4}, {"x = 1 'x'", 4},
		{"x = 'a' 'b'", 4}, {"x = { } { }", 5}, {"x = { } . a", 5}, {"x = 'a' . b", 4}, {"x = 'a' [ 1 ]", 4}, {"x = 1 : f ( )", 4}, {"x = ... . a", 4},
		{"x = ... { }", 4}, {"x = function ( ) end . a", 7}, {"x = function ( ) end 'a'", 7}, {"x = nil [ 1 ]", 4}, {"x = a : b", 5}, {"x = a : b + 1", 6},
		{"x = ( )", 4}, {"x = ( 1", 4}, {"x = ( 1 , 2 )", 5}, {"x = ( 1 ; )", 5}, {"x = ( x = 1 )", 5}, {"x = 1 )", 4}, {"x = 1 ]", 4}, {"x = 1 }", 4},
		{"x = a ! b", 4}, {"x = a ~ = b", 5}, {"x = a = b", 4}, {"x = a not b", 4}, {"x = a # b", 4}, {"x = a or or b", 5}, {"x = or b", 3}, {"x = < b", 3},
		{"x = function", 3}, {"x = function f ( ) end", 4}, {"x = function ( )", 5}, {"x = function ( ) end end", 7}, {"x = break", 3}, {"x = ::", 3}, {"x = then", 3},
		{"x = {", 3}, {"x = { ,", 4}, {"x = { , }", 4}, {"x = { ; }", 4}, {"x = { 1 2 }", 5}, {"x = { 1 , , }", 6}, {"x = { 1 , ; 2 }", 6}, {"x = { 1", 4},
		{"x = { 1 ,", 5}, {"x = { a = }", 6}, {"x = { a = 1", 6}, {"x = { [ 1 ] }", 7}, {"x = { [ 1 ]", 6}, {"x = { [ 1 ] 2 }", 7}, {"x = { [ ] = 1 }", 5},
		{"x = { [ 1 = 2 }", 6}, {"x = { 1 = 2 }", 5}, {"x = { 'a' = 2 }", 5}, {"x = { a . b = 2 }", 7}, {"x = { end = 2 }", 4}, {"x = { ( a ) = 2 }", 7},
		{"x = { a = b = c }", 7}, {"x = { local a }", 4}, {"x = { ... = 2 }", 5}, {"x = { [ 1 , 2 ] = 2 }", 6}, {"x = { a : 1 }", 6}, {"x = { a : b }", 7},
		{"x = 1 \\", 4}, {"and", 1}, {"x and y", 2}, {"x + 1", 2}, {"x .. y", 2}, {"x == 1", 2}, {"f ( ) + 1", 4}, {"f ( ) , g ( )", 4}, {"x = { a = b , c . d = 2 }", 11},
		{"f ( ) ; , x", 5}, {"do ( a ) end", 5}, {"a . b . c", 5}, {"; ; x", 3}, {"; ; 1", 3}, {". a = 1", 1}, {"[ 1 ] = 2", 1}, {"! x", 1},
	} {
		text := strings.Join(strings.Fields(c.text), "\n")
		if strings.ContainsAny(text, "!\\") {
			fails(t, text, strings.Count(text[:strings.IndexAny(text, "!\\")], "\n")+1, api.ErrForm)
			continue
		}
		fails(t, text, c.line, api.ErrForm)
		fails(t, "\n\n"+text+"\n\n-- end", c.line+2, api.ErrForm)
	}
}

func TestExprErrors(t *testing.T) {
	for _, c := range []struct {
		text string
		line int
	}{
		{"", 1}, {"\n\n", 1}, {"-- x\n", 1}, {"1\n+", 2}, {"1\n+\n\n", 2}, {"\n\n(", 3}, {"x\n=\n1", 2}, {"1\n2", 2}, {"1\n,\n2", 2}, {"x\n;", 2}, {";", 1}, {"return", 1},
		{"return\n1", 1}, {"end", 1}, {"x\nend", 2}, {"x\n)", 2}, {"(\nx\n}", 3}, {"local\nx", 1}, {"f\n(\n)\nx", 4}, {"a\n.", 2}, {"a\n:\nb", 3}, {"a\n:\nb\n.\nc", 4},
		{"function\n(\n)\nreturn\n1\n2\nend", 6}, {"{\n1\n2\n}", 3}, {"not", 1}, {"\n-\n-", 3}, {"break", 1}, {"a\n<", 2}, {"'x'\n(\n)", 2}, {"x\n-- y\n=", 3},
	} {
		failsExpr(t, c.text, c.line, api.ErrForm)
	}
}

// TestTokenErrors checks that errors of tokens come first, with their lines.
func TestTokenErrors(t *testing.T) {
	long := strings.Repeat("n", api.MaxName+1)
	for _, c := range []struct {
		text string
		line int
		want api.Errno
	}{
		{"x = = 1\n?", 2, api.ErrForm},
		{"= =\n= 'a", 2, api.ErrForm},
		{"= =\n\n'\\256'", 3, api.ErrRange},
		{"= =\n" + long, 2, api.ErrLimit},
		{"\n" + long + "\n?", 2, api.ErrLimit},
		{"return 2147483648", 1, api.ErrRange},
		{"= =\n\n\n2147483648", 4, api.ErrRange},
		{"x = 1a", 1, api.ErrForm},
		{"local b<const>=1", 1, api.ErrForm},
		{"x = '" + strings.Repeat("s", api.MaxString+1) + "'", 1, api.ErrLimit},
		{"\n\n=" + strings.Repeat(" ", api.MaxText), 1, api.ErrLimit},
	} {
		fails(t, c.text, c.line, c.want)
		failsExpr(t, c.text, c.line, c.want)
		if _, line, e := lexer.Scan(c.text); e != c.want && e != api.OK || e != api.OK && line != c.line {
			t.Errorf("Scan(%.60q): line %d, error %d", c.text, line, int(e))
		}
	}
}

// TestStringsAsTokens checks that a string is no keyword or symbol with the same text.
func TestStringsAsTokens(t *testing.T) {
	for _, s := range strings.Fields("and end else elseif until then do in ( ) { } [ ] = , ; : :: . .. ... + - * / // % ^ # & ~ | << >> == ~= <= >= < > nil true function not a 1 const self") {
		quoted := "'" + s + "'"
		shown := "\"" + s + "\""
		reads(t, plain, "x = "+quoted+" ; f "+quoted+" {"+quoted+", ["+quoted+"] = "+quoted+"} return "+quoted,
			"[set x = "+shown+"] [do (call (call f "+shown+") (table (item "+shown+") (pair "+shown+" "+shown+")))] [return "+shown+"]")
		reads(t, plain, "if "+quoted+" then elseif "+quoted+" then end", "[if "+shown+" "+shown+" {} {}]")
		fails(t, "\n"+quoted, 2, api.ErrForm)
		fails(t, "do\n"+quoted+" end", 2, api.ErrForm)
		fails(t, "x\n=\n1\n"+quoted+"\n1", 4, api.ErrForm)
		fails(t, "x = f(1\n"+quoted, 2, api.ErrForm)
		fails(t, "x = {1\n"+quoted, 2, api.ErrForm)
		fails(t, "x = {a\n"+quoted+"\n1 }", 3, api.ErrForm)
		fails(t, "for i\n"+quoted+" 1, 2 do end", 2, api.ErrForm)
		fails(t, "local x <\n"+quoted, 2, api.ErrForm)
		fails(t, "function\n"+quoted, 2, api.ErrForm)
	}
}

// nested returns a text in brackets n times, an expression.
func nested(n int, open, inner, end string) string {
	return strings.Repeat(open, n) + inner + strings.Repeat(end, n)
}

// TestLimits reads texts whose trees are as large or deep as permitted, and larger or deeper ones.
func TestLimits(t *testing.T) {
	ok := func(what, s string, want api.Errno) {
		t.Helper()
		if b, line, e := parser.Chunk(s); e != want || line != 0 || (e == api.OK) != (len(b) > 0) {
			t.Errorf("Chunk of %s: line %d, error %d; want error %d", what, line, int(e), int(want))
		}
		if x, line, e := parser.Expr(strings.TrimPrefix(s, "return ")); strings.HasPrefix(s, "return ") && (e != want || line != 0 || (e == api.OK) != (x.Kind != 0)) {
			t.Errorf("Expr of %s: line %d, error %d; want error %d", what, line, int(e), int(want))
		}
	}
	ok("brackets without trace", "return "+nested(30000, "(", "a", ")"), api.OK)
	ok("brackets around a call", "return "+nested(30000, "(", "f()", ")"), api.OK)
	ok("operators", "return "+nested(api.MaxDepth-2, "- ", "a", ""), api.OK)
	ok("too many operators", "return "+nested(api.MaxDepth-1, "- ", "a", ""), api.ErrLimit)
	ok("very many operators", "return "+nested(32000, "- ", "a", ""), api.ErrLimit)
	ok("very many powers", "return "+nested(30000, "1^", "a", ""), api.ErrLimit)
	ok("very many sums", "return "+nested(30000, "", "a", "+1"), api.ErrLimit)
	ok("very many joined parts", "return "+nested(20000, "a..", "a", ""), api.ErrLimit)
	ok("tables", "return "+nested(api.MaxDepth/2, "{", "", "}"), api.OK)
	ok("too many tables", "return "+nested(api.MaxDepth/2+1, "{", "", "}"), api.ErrLimit)
	ok("very many tables", "return "+nested(30000, "{", "", "}"), api.ErrLimit)
	ok("very many calls", "return "+nested(30000, "", "f", "()"), api.ErrLimit)
	ok("very many arguments in one another", "return "+nested(20000, "f(", "", ")"), api.ErrLimit)
	ok("very many keys", "return "+nested(20000, "a[", "1", "]"), api.ErrLimit)
	ok("blocks", nested(api.MaxDepth-1, "do ", "break ", "end "), api.OK)
	ok("too many blocks", nested(api.MaxDepth, "do ", "break ", "end "), api.ErrLimit)
	ok("very many blocks", nested(8000, "do ", "", "end "), api.ErrLimit)
	ok("very many loops", nested(2000, "while a do ", "", "end "), api.ErrLimit)
	ok("very many functions", "return "+nested(2000, "function() return ", "", "end "), api.ErrLimit)
	ok("many statements", strings.Repeat("break ", 10000), api.OK)
	ok("as many parts as permitted", "f{"+strings.Repeat("1,", api.MaxNodes/2-2)+"}", api.OK)
	ok("too many parts", "f{"+strings.Repeat("1,", api.MaxNodes/2-2)+"1}", api.ErrLimit)
	ok("many expressions", " return "+strings.Repeat("1,", api.MaxNodes/2-10)+"1", api.OK)
	ok("too many statements", strings.Repeat("f''", api.MaxText/3), api.ErrLimit)
	ok("too many statements of a function", "return function()"+strings.Repeat("f''", api.MaxText/4+1)+"end", api.ErrLimit)
	for _, s := range []string{"(", "{", "a(", "a[", "- ", "not ", "a^", "a..", "f{", "do ", "repeat ", "function(", "x=function()", "if a then "} {
		text := strings.Repeat(s, api.MaxText/len(s))
		if b, line, e := parser.Chunk(text); len(b) != 0 || line != 1 || e != api.ErrForm {
			t.Errorf("Chunk(%.60q): line %d, error %d", text, line, int(e))
		}
		if _, line, e := parser.Expr(text); line != 1 || e != api.ErrForm {
			t.Errorf("Expr(%.60q): line %d, error %d", text, line, int(e))
		}
	}
}

// TestExprLimit checks that the limit of Expr is that of tree.Expr, which counts a statement.
func TestExprLimit(t *testing.T) {
	most := api.MaxNodes/2 - 1
	if x, _, e := parser.Expr("{" + strings.Repeat("1,", most-1) + "1}"); e != api.OK || tree.Expr(x) != api.OK || len(x.Args) != most {
		t.Errorf("Expr of %d items: %d", most, int(e))
	}
	failsExpr(t, "\nfunction()"+strings.Repeat("f''", api.MaxNodes/4)+"end", 0, api.ErrLimit)
	failsExpr(t, strings.Repeat("-\n", api.MaxDepth)+"1", 0, api.ErrLimit)
	fails(t, "\n\nreturn "+strings.Repeat("-\n", api.MaxDepth)+"1", 0, api.ErrLimit)
}
