package parser_test

import (
	"strconv"
	"strings"
	"testing"

	"scripting/api"
	"scripting/parser"
	"scripting/tree"
)

var (
	statWords = [...]string{
		api.SLocal: "local", api.SFunc: "localfunction", api.SAssign: "set", api.SCall: "do", api.SDo: "block", api.SWhile: "while",
		api.SRepeat: "repeat", api.SIf: "if", api.SNum: "for", api.SFor: "forin", api.SReturn: "return", api.SBreak: "break",
		api.SGoto: "goto", api.SLabel: "label",
	}
	exprWords = [...]string{
		api.ENil: "nil", api.ETrue: "true", api.EFalse: "false", api.ENumber: "", api.EString: "", api.EVararg: "...", api.EName: "",
		api.EIndex: "index", api.ECall: "call", api.EMethod: "method", api.EFunc: "function", api.ETable: "table", api.EItem: "item",
		api.EPair: "pair", api.EUnary: "", api.EBinary: "", api.EAnd: "and", api.EOr: "or", api.EParen: "paren",
	}
	opWords = [...]string{
		api.OpAdd: "+", api.OpSub: "-", api.OpMul: "*", api.OpDiv: "/", api.OpQuot: "//", api.OpMod: "%", api.OpPow: "^", api.OpConcat: "..",
		api.OpAnd: "&", api.OpOr: "|", api.OpXor: "~", api.OpShl: "<<", api.OpShr: ">>", api.OpEq: "==", api.OpNe: "~=", api.OpLt: "<",
		api.OpLe: "<=", api.OpGt: ">", api.OpGe: ">=", api.OpNeg: "neg", api.OpNot: "not", api.OpLen: "len", api.OpBnot: "bnot",
	}
	attrWords = [...]string{"", "<const>", "<close>"}
)

// view writes a tree as words in brackets: the kind of a statement or expression and what it has. With lines, each
// one begins with its line.
type view struct{ lines bool }

// line returns the beginning of what is in a line.
func (v view) line(n int) string {
	if !v.lines {
		return ""
	}
	return strconv.Itoa(n) + ":"
}

func (v view) block(b []api.Stat) string {
	var l []string
	for _, s := range b {
		l = append(l, v.stat(s))
	}
	return strings.Join(l, " ")
}

func (v view) stat(s api.Stat) string {
	l := []string{statWords[s.Kind]}
	for _, x := range s.Names {
		l = append(l, x.Name+attrWords[x.Attr])
	}
	if s.Label != "" {
		l = append(l, s.Label)
	}
	if len(s.Left) > 0 {
		l = append(append(l, v.exprs(s.Left)...), "=")
	}
	l = append(l, v.exprs(s.Right)...)
	for _, b := range s.Blocks {
		l = append(l, "{"+v.block(b)+"}")
	}
	return v.line(s.Line) + "[" + strings.Join(l, " ") + "]"
}

func (v view) exprs(l []api.Expr) []string {
	var texts []string
	for _, e := range l {
		texts = append(texts, v.expr(e))
	}
	return texts
}

func (v view) expr(e api.Expr) string {
	at := v.line(e.Line)
	word := exprWords[e.Kind] + opWords[e.Op]
	switch e.Kind {
	case api.ENumber:
		word = strconv.Itoa(e.Num.P)
		if e.Num.Q != 1 {
			word += "/" + strconv.Itoa(e.Num.Q)
		}
	case api.EString:
		word = strconv.Quote(e.Str)
	case api.EName:
		word = e.Str
	case api.EMethod:
		word += " " + e.Str
	}
	l := append([]string{word}, v.exprs(e.Args)...)
	for _, f := range e.Funcs {
		l = append(l, v.fn(f))
	}
	if len(l) == 1 && e.Kind != api.ETable {
		return at + word
	}
	return at + "(" + strings.Join(l, " ") + ")"
}

func (v view) fn(f api.Func) string {
	params := strings.Join(f.Params, " ")
	if f.Vararg {
		params += "..."
	}
	return v.line(f.Line) + strconv.Quote(f.Name) + " <" + params + "> {" + v.block(f.Body) + "}"
}

// reads checks that a text is read as a chunk with this view.
func reads(t *testing.T, v view, s, want string) {
	t.Helper()
	b, line, e := parser.Chunk(s)
	if got := v.block(b); got != want || line != 0 || e != api.OK {
		t.Errorf("Chunk(%.200q): %s, line %d, error %d; want %s", s, got, line, int(e), want)
	}
}

// readsExpr checks that a text is read as an expression with this view, also in all places in which an expression can be.
func readsExpr(t *testing.T, v view, s, want string) {
	t.Helper()
	x, line, e := parser.Expr(s)
	if got := v.expr(x); got != want || line != 0 || e != api.OK {
		t.Errorf("Expr(%.200q): %s, line %d, error %d; want %s", s, got, line, int(e), want)
	}
	if v.lines {
		return
	}
	reads(t, v, "return "+s, "[return "+want+"]")
	reads(t, v, "x, y = "+s+", "+s+" z = "+s, "[set x y = "+want+" "+want+"] [set z = "+want+"]")
	reads(t, v, "local x = "+s, "[local x "+want+"]")
	reads(t, v, "while "+s+" do repeat until "+s+" end", "[while "+want+" {[repeat "+want+" {}]}]")
	reads(t, v, "for i = "+s+", "+s+", "+s+" do end", "[for i "+want+" "+want+" "+want+" {}]")
	reads(t, v, "for i in "+s+", "+s+" do end", "[forin i "+want+" "+want+" {}]")
	reads(t, v, "if "+s+" then elseif "+s+" then end", "[if "+want+" "+want+" {} {}]")
	reads(t, v, "f("+s+", "+s+")", "[do (call f "+want+" "+want+")]")
	reads(t, v, "f{"+s+", ["+s+"] = "+s+"; k = "+s+"}", "[do (call f (table (item "+want+") (pair "+want+" "+want+") (pair \"k\" "+want+")))]")
	reads(t, v, "t["+s+"] = function() return "+s+" end", "[set (index t "+want+") = (function \"\" <> {[return "+want+"]})]")
	reads(t, v, "return 1 or ("+s+").k", "[return (or 1 (index "+bracketed(want)+" \"k\"))]")
}

// bracketed returns the view of an expression in brackets.
func bracketed(s string) string {
	for _, begin := range []string{"(call ", "(method ", "..."} {
		if strings.HasPrefix(s, begin) {
			return "(paren " + s + ")"
		}
	}
	return s
}

// fails checks that neither a chunk nor anything else is returned, but an error in a line.
func fails(t *testing.T, s string, line int, want api.Errno) {
	t.Helper()
	if b, n, e := parser.Chunk(s); len(b) != 0 || n != line || e != want {
		t.Errorf("Chunk(%.200q): %d statements, line %d, error %d; want line %d, error %d", s, len(b), n, int(e), line, int(want))
	}
}

// failsExpr checks the same of an expression.
func failsExpr(t *testing.T, s string, line int, want api.Errno) {
	t.Helper()
	x, n, e := parser.Expr(s)
	if !tree.SameExpr(x, api.Expr{}) || n != line || e != want {
		t.Errorf("Expr(%.200q): %v, line %d, error %d; want line %d, error %d", s, x, n, int(e), line, int(want))
	}
}
