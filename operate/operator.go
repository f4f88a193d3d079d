package operate

import "scripting/api"

// operator is how an operator is written, and the event of its metamethods.
type operator struct{ symbol, event string }

// operators are the operators, by their numbers.
var operators = [...]operator{
	api.OpAdd:    {"+", "__add"},
	api.OpSub:    {"-", "__sub"},
	api.OpMul:    {"*", "__mul"},
	api.OpDiv:    {"/", "__div"},
	api.OpQuot:   {"//", "__idiv"},
	api.OpMod:    {"%", "__mod"},
	api.OpPow:    {"^", "__pow"},
	api.OpConcat: {"..", "__concat"},
	api.OpAnd:    {"&", "__band"},
	api.OpOr:     {"|", "__bor"},
	api.OpXor:    {"~", "__bxor"},
	api.OpShl:    {"<<", "__shl"},
	api.OpShr:    {">>", "__shr"},
	api.OpEq:     {"==", "__eq"},
	api.OpNe:     {"~=", "__eq"},
	api.OpLt:     {"<", "__lt"},
	api.OpLe:     {"<=", "__le"},
	api.OpGt:     {">", "__lt"},
	api.OpGe:     {">=", "__le"},
	api.OpNeg:    {"-", "__unm"},
	api.OpNot:    {"not", ""},
	api.OpLen:    {"#", "__len"},
	api.OpBnot:   {"~", "__bnot"},
}

// Name returns the symbol of an operator.
func Name(op int) string { return find(op).symbol }

// Event returns the event of an operator.
func Event(op int) string { return find(op).event }

// find returns an operator, with empty texts if there is none with this number.
func find(op int) operator {
	if op < 0 || op >= len(operators) {
		return operator{}
	}
	return operators[op]
}

// isUnary reports whether op is a unary operator.
func isUnary(op int) bool { return op >= api.OpNeg && op <= api.OpBnot }

// isBinary reports whether op is a binary operator.
func isBinary(op int) bool { return op >= api.OpAdd && op <= api.OpGe }

// isBitwise reports whether op is a bitwise operator.
func isBitwise(op int) bool { return op >= api.OpAnd && op <= api.OpShr || op == api.OpBnot }
