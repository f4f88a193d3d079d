package printer_test

import (
	"math/big"
	"strings"

	"scripting/api"
	"scripting/lexer"
)

// The functions of this file write the texts that the tables of the chapter define. They know no indentation: what is
// inside of something is moved to the right when its text is complete. No string contains a line feed that is written
// as such.

// wantBlock returns the text of a block.
func wantBlock(b []api.Stat) string {
	var text strings.Builder
	for _, s := range b {
		line := wantStat(s)
		if (s.Kind == api.SAssign || s.Kind == api.SCall) && strings.HasPrefix(line, "(") {
			line = ";" + line
		}
		text.WriteString(line + "\n")
	}
	return text.String()
}

// inside returns the text of a block and what is around it.
func inside(before string, b []api.Stat, after string) string {
	text := before + "\n"
	for line := range strings.Lines(wantBlock(b)) {
		text += "  " + line
	}
	return text + after
}

// wantStat returns the text of a statement.
func wantStat(s api.Stat) string {
	right := wantExprs(s.Right)
	switch s.Kind {
	case api.SLocal:
		return strings.TrimSuffix("local "+wantNames(s.Names)+" = "+right, " = ")
	case api.SFunc:
		return "local function " + s.Names[0].Name + wantFunc(s.Right[0].Funcs[0])
	case api.SAssign:
		return wantAssign(s)
	case api.SCall:
		return right
	case api.SDo:
		return inside("do", s.Blocks[0], "end")
	case api.SWhile:
		return inside("while "+right+" do", s.Blocks[0], "end")
	case api.SRepeat:
		return inside("repeat", s.Blocks[0], "until "+right)
	case api.SIf:
		return wantChoice(s)
	case api.SNum:
		return inside("for "+s.Names[0].Name+" = "+right+" do", s.Blocks[0], "end")
	case api.SFor:
		return inside("for "+wantNames(s.Names)+" in "+right+" do", s.Blocks[0], "end")
	case api.SReturn:
		return strings.TrimSuffix("return "+right, " ")
	case api.SBreak:
		return "break"
	case api.SGoto:
		return "goto " + s.Label
	}
	return "::" + s.Label + "::"
}

func wantAssign(s api.Stat) string {
	if f := s.Right[0].Funcs; len(f) == 1 && f[0].Name != "" {
		text := wantFunc(f[0])
		if strings.Contains(f[0].Name, ":") {
			text = "(" + strings.TrimPrefix(strings.TrimPrefix(text, "(self"), ", ")
		}
		return "function " + f[0].Name + text
	}
	return wantExprs(s.Left) + " = " + wantExprs(s.Right)
}

func wantChoice(s api.Stat) string {
	text := ""
	for i, e := range s.Right {
		text += inside([]string{"if ", "elseif "}[min(i, 1)]+wantExpr(e)+" then", s.Blocks[i], "")
	}
	if len(s.Blocks) > len(s.Right) {
		text += inside("else", s.Blocks[len(s.Right)], "")
	}
	return text + "end"
}

func wantNames(l []api.Local) string {
	var words []string
	for _, x := range l {
		words = append(words, x.Name+[]string{"", " <const>", " <close>"}[x.Attr])
	}
	return strings.Join(words, ", ")
}

func wantExprs(l []api.Expr) string {
	var words []string
	for _, x := range l {
		words = append(words, wantExpr(x))
	}
	return strings.Join(words, ", ")
}

// wantFunc returns the text of a function from its parameters on.
func wantFunc(f api.Func) string {
	params := append([]string{}, f.Params...)
	if f.Vararg {
		params = append(params, "...")
	}
	return inside("("+strings.Join(params, ", ")+")", f.Body, "end")
}

// opTexts has the operators by Op.
var opTexts = [...]string{
	api.OpAdd: "+", api.OpSub: "-", api.OpMul: "*", api.OpDiv: "/", api.OpQuot: "//", api.OpMod: "%", api.OpPow: "^", api.OpConcat: "..",
	api.OpAnd: "&", api.OpOr: "|", api.OpXor: "~", api.OpShl: "<<", api.OpShr: ">>", api.OpEq: "==", api.OpNe: "~=", api.OpLt: "<",
	api.OpLe: "<=", api.OpGt: ">", api.OpGe: ">=", api.OpNeg: "-", api.OpNot: "not ", api.OpLen: "#", api.OpBnot: "~",
}

// wantLevel returns the level of an expression.
func wantLevel(e api.Expr) int {
	switch e.Kind {
	case api.EOr:
		return 1
	case api.EAnd:
		return 2
	case api.EUnary:
		return 11
	case api.EBinary:
		for i, row := range []string{"== ~= < <= > >=", "|", "~", "&", "<< >>", "..", "+ -", "* / // %", "", "^"} {
			for _, x := range strings.Fields(row) {
				if x == opTexts[e.Op] {
					return 3 + i
				}
			}
		}
	}
	return 13
}

// brackets returns a text in brackets, if it has to be.
func brackets(needed bool, text string) string {
	if needed {
		return "(" + text + ")"
	}
	return text
}

// wantExpr returns the text of an expression.
func wantExpr(e api.Expr) string {
	switch e.Kind {
	case api.ENil, api.ETrue, api.EFalse, api.EVararg:
		return map[int]string{api.ENil: "nil", api.ETrue: "true", api.EFalse: "false", api.EVararg: "..."}[e.Kind]
	case api.ENumber:
		return wantNumber(e.Num)
	case api.EString:
		return lexer.Quote(e.Str)
	case api.EName:
		return e.Str
	case api.EIndex:
		return wantObject(e.Args[0]) + wantKey(e.Args[1], ".")
	case api.ECall:
		return wantObject(e.Args[0]) + "(" + wantExprs(e.Args[1:]) + ")"
	case api.EMethod:
		return wantObject(e.Args[0]) + ":" + e.Str + "(" + wantExprs(e.Args[1:]) + ")"
	case api.EFunc:
		return "function" + wantFunc(e.Funcs[0])
	case api.ETable:
		return "{" + wantExprs(e.Args) + "}"
	case api.EItem:
		return wantExpr(e.Args[0])
	case api.EPair:
		return wantKey(e.Args[0], "") + " = " + wantExpr(e.Args[1])
	case api.EUnary:
		text := wantExpr(e.Args[0])
		return opTexts[e.Op] + brackets(wantLevel(e.Args[0]) < 11 || e.Op == api.OpNeg && text[0] == '-', text)
	case api.EParen:
		return "(" + wantExpr(e.Args[0]) + ")"
	}
	return wantBinary(e)
}

func wantBinary(e api.Expr) string {
	sign := opTexts[e.Op] + map[int]string{api.EAnd: "and", api.EOr: "or"}[e.Kind]
	right := e.Kind == api.EBinary && (e.Op == api.OpConcat || e.Op == api.OpPow)
	own, l, r := wantLevel(e), wantLevel(e.Args[0]), wantLevel(e.Args[1])
	return brackets(l < own || l == own && right, wantExpr(e.Args[0])) + " " + sign + " " + brackets(r < own || r == own && !right, wantExpr(e.Args[1]))
}

func wantObject(e api.Expr) string {
	plain := e.Kind == api.EName || e.Kind == api.EIndex || e.Kind == api.ECall || e.Kind == api.EMethod || e.Kind == api.EParen
	return brackets(!plain, wantExpr(e))
}

// wantKey returns the text of a key that, if it is a name, has something before it.
func wantKey(e api.Expr, before string) string {
	if e.Kind == api.EString && lexer.Name(e.Str) {
		return before + e.Str
	}
	return "[" + wantExpr(e) + "]"
}

// wantNumber returns the first decimal that is a number.
func wantNumber(a api.Num) string {
	exact := big.NewRat(int64(a.P), int64(a.Q))
	for places := 0; ; places++ {
		text := exact.FloatString(places)
		if x, _ := new(big.Rat).SetString(text); x.Cmp(exact) == 0 {
			return text
		}
	}
}
