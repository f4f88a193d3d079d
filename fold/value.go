package fold

import (
	"strings"

	"scripting/api"
	"scripting/numeral"
	"scripting/rational"
)

// Groups of binary operators: those of a group have one rule.
const (
	noGroup    = iota
	arithmetic // of numbers
	bitwise    // of numbers
	joining    // of strings and numbers
	equality   // of any values
	ordering   // of numbers or strings
)

// groups are the groups of the binary operators, by their numbers.
var groups = [...]int{
	api.OpAdd: arithmetic, api.OpSub: arithmetic, api.OpMul: arithmetic, api.OpDiv: arithmetic,
	api.OpQuot: arithmetic, api.OpMod: arithmetic, api.OpPow: arithmetic,
	api.OpConcat: joining,
	api.OpAnd:    bitwise, api.OpOr: bitwise, api.OpXor: bitwise, api.OpShl: bitwise, api.OpShr: bitwise,
	api.OpEq: equality, api.OpNe: equality,
	api.OpLt: ordering, api.OpLe: ordering, api.OpGt: ordering, api.OpGe: ordering,
}

// groupOf returns the group of an operator, or noGroup if it is no binary one.
func groupOf(op int) int {
	if op < 0 || op >= len(groups) {
		return noGroup
	}
	return groups[op]
}

// valueOf returns the constant of an expression that mentions no variable, from those of its arguments.
func valueOf(e api.Expr, args []constant) constant {
	switch e.Kind {
	case api.ENil:
		return constant{known: true}
	case api.ETrue, api.EFalse:
		return truth(e.Kind == api.ETrue)
	case api.ENumber:
		if rational.Valid(e.Num) {
			return number(e.Num)
		}
	case api.EString:
		return text(e.Str)
	case api.EParen, api.EUnary:
		if len(args) == 1 && args[0].known {
			return ofOne(e, args[0])
		}
	case api.EBinary, api.EAnd, api.EOr:
		if len(args) == 2 && args[0].known {
			return ofTwo(e, args[0], args[1])
		}
	}
	return constant{}
}

// ofOne returns the constant of an expression with one argument.
func ofOne(e api.Expr, x constant) constant {
	if e.Kind == api.EParen {
		return x
	}
	return unary(e.Op, x.value)
}

// ofTwo returns the constant of an expression with two arguments, of which the first one is a constant.
func ofTwo(e api.Expr, x, y constant) constant {
	switch {
	case e.Kind == api.EBinary && y.known:
		return binary(e.Op, x.value, y.value)
	case e.Kind == api.EBinary:
		return constant{}
	case passes(e.Kind, x.value):
		return y
	}
	return x
}

// unary returns the constant of a unary operator.
func unary(op int, x api.Value) constant {
	switch {
	case op == api.OpNot:
		return truth(!isTrue(x))
	case op == api.OpLen && x.Kind == api.String:
		return result(rational.Int(len(x.Str)))
	case op == api.OpNeg && x.Kind == api.Number:
		return result(rational.Neg(x.Num))
	case op == api.OpBnot && x.Kind == api.Number:
		return result(rational.Bits(op, x.Num, api.Num{}))
	}
	return constant{}
}

// binary returns the constant of a binary operator.
func binary(op int, x, y api.Value) constant {
	switch groupOf(op) {
	case equality:
		return truth((x == y) == (op == api.OpEq))
	case joining:
		return joined(x, y)
	case ordering:
		if x.Kind == api.String && y.Kind == api.String {
			return truth(holds(op, strings.Compare(x.Str, y.Str)))
		}
		// What is left of it are numbers, as for the groups below.
		fallthrough
	case arithmetic, bitwise:
		if x.Kind == api.Number && y.Kind == api.Number {
			return numeric(op, x.Num, y.Num)
		}
	}
	return constant{}
}

// numeric returns the constant of a binary operator of two numbers.
func numeric(op int, a, b api.Num) constant {
	switch op {
	case api.OpAdd:
		return result(rational.Add(a, b))
	case api.OpSub:
		return result(rational.Sub(a, b))
	case api.OpMul:
		return result(rational.Mul(a, b))
	case api.OpDiv:
		return result(rational.Div(a, b))
	case api.OpQuot:
		return result(rational.Quot(a, b))
	case api.OpMod:
		return result(rational.Mod(a, b))
	case api.OpPow:
		return result(rational.Pow(a, b))
	case api.OpLt, api.OpLe, api.OpGt, api.OpGe:
		return truth(holds(op, rational.Cmp(a, b)))
	}
	return result(rational.Bits(op, a, b))
}

// holds reports whether an operator that compares holds for an order: -1, 0 or 1.
func holds(op, order int) bool {
	switch op {
	case api.OpLt:
		return order < 0
	case api.OpLe:
		return order <= 0
	case api.OpGt:
		return order > 0
	}
	return order >= 0
}

// joined returns the constant of two strings or numbers joined.
func joined(x, y api.Value) constant {
	first, isFirst := textOf(x)
	second, isSecond := textOf(y)
	if !isFirst || !isSecond {
		return constant{}
	}
	return text(first + second)
}

// textOf returns the text of a string or number, and whether it is one.
func textOf(v api.Value) (string, bool) {
	switch v.Kind {
	case api.Number:
		return numeral.Text(v.Num), true
	case api.String:
		return v.Str, true
	}
	return "", false
}

// isTrue reports whether a value is neither nil nor false.
func isTrue(v api.Value) bool { return v.Kind != api.Nil && v != api.Value{Kind: api.Bool} }

// truth returns a truth value as a constant.
func truth(b bool) constant {
	v := api.Value{Kind: api.Bool}
	if b {
		v.Ref = 1
	}
	return constant{known: true, value: v}
}

// number returns a number as a constant.
func number(n api.Num) constant {
	return constant{known: true, value: api.Value{Kind: api.Number, Num: n}}
}

// text returns a string as a constant, if it is not too long.
func text(s string) constant {
	if len(s) > api.MaxString {
		return constant{}
	}
	return constant{known: true, value: api.Value{Kind: api.String, Str: s}}
}

// result returns the result of an operation as a constant, if it has no error.
func result(n api.Num, e api.Errno) constant {
	if e != api.OK {
		return constant{}
	}
	return number(n)
}
