package printer

import (
	"scripting/api"
	"scripting/lexer"
	"scripting/numeral"
)

const (
	unaryLevel = 11 // the level of the unary operators
	mostLevel  = 13 // the level of expressions without an operator
)

// operator is what an expression with an operator has: its kind and its Op.
type operator struct{ kind, op int }

// sign is how an operator is written: its text, its level, and whether it is right-associative.
type sign struct {
	text  string
	level int
	right bool
}

// signs returns the signs of all operators.
func signs() map[operator]sign {
	return map[operator]sign{
		{api.EOr, 0}:                {"or", 1, false},
		{api.EAnd, 0}:               {"and", 2, false},
		{api.EBinary, api.OpEq}:     {"==", 3, false},
		{api.EBinary, api.OpNe}:     {"~=", 3, false},
		{api.EBinary, api.OpLt}:     {"<", 3, false},
		{api.EBinary, api.OpLe}:     {"<=", 3, false},
		{api.EBinary, api.OpGt}:     {">", 3, false},
		{api.EBinary, api.OpGe}:     {">=", 3, false},
		{api.EBinary, api.OpOr}:     {"|", 4, false},
		{api.EBinary, api.OpXor}:    {"~", 5, false},
		{api.EBinary, api.OpAnd}:    {"&", 6, false},
		{api.EBinary, api.OpShl}:    {"<<", 7, false},
		{api.EBinary, api.OpShr}:    {">>", 7, false},
		{api.EBinary, api.OpConcat}: {"..", 8, true},
		{api.EBinary, api.OpAdd}:    {"+", 9, false},
		{api.EBinary, api.OpSub}:    {"-", 9, false},
		{api.EBinary, api.OpMul}:    {"*", 10, false},
		{api.EBinary, api.OpDiv}:    {"/", 10, false},
		{api.EBinary, api.OpQuot}:   {"//", 10, false},
		{api.EBinary, api.OpMod}:    {"%", 10, false},
		{api.EUnary, api.OpNeg}:     {"-", unaryLevel, false},
		{api.EUnary, api.OpNot}:     {"not ", unaryLevel, false},
		{api.EUnary, api.OpLen}:     {"#", unaryLevel, false},
		{api.EUnary, api.OpBnot}:    {"~", unaryLevel, false},
		{api.EBinary, api.OpPow}:    {"^", 12, true},
	}
}

// level returns the level of an expression.
func (w *writer) level(e *api.Expr) int {
	if s, found := w.signs[operator{e.Kind, e.Op}]; found {
		return s.level
	}
	return mostLevel
}

// expr writes an expression.
func (w *writer) expr(e *api.Expr) {
	if w.full() {
		return
	}
	switch e.Kind {
	case api.EIndex, api.ECall, api.EMethod:
		w.suffixed(e)
	case api.EFunc:
		w.put("function")
		w.function(e.Funcs[0].Params, &e.Funcs[0])
	case api.ETable:
		w.table(e)
	case api.EUnary:
		w.unary(e)
	case api.EBinary, api.EAnd, api.EOr:
		w.binary(e)
	case api.EParen:
		w.bracketed(&e.Args[0])
	default:
		w.put(leaf(e))
	}
}

// leaf returns the text of an expression without parts.
func leaf(e *api.Expr) string {
	switch e.Kind {
	case api.ENil:
		return "nil"
	case api.ETrue:
		return "true"
	case api.EFalse:
		return "false"
	case api.EVararg:
		return "..."
	case api.ENumber:
		return number(e.Num)
	case api.EString:
		return lexer.Quote(e.Str)
	}
	return e.Str
}

// number returns the decimal of a number with as few places as possible. Those of trees have a decimal.
func number(a api.Num) string {
	places := 0
	for unit := 1; unit%a.Q != 0; unit *= 10 {
		places++
	}
	s, _ := numeral.Fixed(a, places)
	return s
}

// exprs writes a list of expressions.
func (w *writer) exprs(l []api.Expr) {
	for i := range l {
		w.comma(i)
		w.expr(&l[i])
	}
}

// bracketed writes an expression in brackets.
func (w *writer) bracketed(e *api.Expr) {
	w.put("(")
	w.expr(e)
	w.put(")")
}

// operand writes an operand, in brackets if its level is less than it has to be.
func (w *writer) operand(e *api.Expr, least int) {
	if w.level(e) < least {
		w.bracketed(e)
	} else {
		w.expr(e)
	}
}

// unary writes a unary operator with its operand.
func (w *writer) unary(e *api.Expr) {
	x, least := &e.Args[0], unaryLevel
	if e.Op == api.OpNeg && x.Op == api.OpNeg {
		// Two signs would be the beginning of a remark.
		least = mostLevel
	}
	w.put(w.signs[operator{e.Kind, e.Op}].text)
	w.operand(x, least)
}

// binary writes a binary operator with its operands.
func (w *writer) binary(e *api.Expr) {
	s := w.signs[operator{e.Kind, e.Op}]
	left, right := s.level, s.level+1
	if s.right {
		left, right = right, left
	}
	w.operand(&e.Args[0], left)
	w.put(" ", s.text, " ")
	w.operand(&e.Args[1], right)
}

// suffixed writes an index or a call.
func (w *writer) suffixed(e *api.Expr) {
	w.object(&e.Args[0])
	switch e.Kind {
	case api.EIndex:
		w.index(&e.Args[1])
		return
	case api.EMethod:
		w.put(":", e.Str)
	}
	w.put("(")
	w.exprs(e.Args[1:])
	w.put(")")
}

// object writes what is indexed or called.
func (w *writer) object(e *api.Expr) {
	switch e.Kind {
	case api.EName, api.EIndex, api.ECall, api.EMethod, api.EParen:
		w.expr(e)
	default:
		w.bracketed(e)
	}
}

// index writes the key of an index.
func (w *writer) index(key *api.Expr) {
	if isName(key) {
		w.put(".", key.Str)
	} else {
		w.key(key)
	}
}

// isName reports whether a key can be written as a name.
func isName(key *api.Expr) bool { return key.Kind == api.EString && lexer.Name(key.Str) }

// key writes a key that is no name.
func (w *writer) key(e *api.Expr) {
	w.put("[")
	w.expr(e)
	w.put("]")
}

// table writes a table.
func (w *writer) table(e *api.Expr) {
	w.put("{")
	for i := range e.Args {
		w.comma(i)
		w.field(&e.Args[i])
	}
	w.put("}")
}

// field writes an item or a pair of a table.
func (w *writer) field(e *api.Expr) {
	if e.Kind == api.EPair {
		if key := &e.Args[0]; isName(key) {
			w.put(key.Str)
		} else {
			w.key(key)
		}
		w.put(" = ")
	}
	w.expr(&e.Args[len(e.Args)-1])
}

// function writes a function from its parameters on, of which the first ones may be left out.
func (w *writer) function(params []string, f *api.Func) {
	w.put("(")
	for i, x := range params {
		w.comma(i)
		w.put(x)
	}
	if f.Vararg {
		w.comma(len(params))
		w.put("...")
	}
	w.put(")")
	w.body(f.Body)
	w.put("end")
}
