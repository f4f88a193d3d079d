package operate

import (
	"scripting/api"
	"scripting/value"
)

// failure returns the need of an operation that fails.
func failure(message string) api.Need { return api.Need{Kind: api.NeedError, Str: message} }

// badArgument returns the failure of a call with something that is no operator or no value.
func badArgument() api.Need { return failure("bad argument") }

// complaint returns the message for operands that an operator has no result and no metamethod for.
func complaint(op int, a, b api.Value) string {
	switch {
	case op == api.OpConcat:
		wrong, _ := misfit(value.Str, a, b)
		return "attempt to concatenate a " + wrong + " value"
	case op == api.OpLt || op == api.OpLe:
		return incomparable(value.Type(a), value.Type(b))
	}
	wrong, found := misfit(value.Number, a, b)
	switch {
	case !isBitwise(op):
		return "attempt to perform arithmetic on a " + wrong + " value"
	case found:
		return "attempt to perform bitwise operation on a " + wrong + " value"
	}
	return "number has no integer representation"
}

// incomparable returns the message for operands of types that have no order.
func incomparable(first, second string) string {
	if first == second {
		return "attempt to compare two " + first + " values"
	}
	return "attempt to compare " + first + " with " + second
}

// misfit returns the type name of the first operand that cannot be converted, if there is one.
func misfit[T any](convert func(api.Value) (T, api.Errno), operands ...api.Value) (string, bool) {
	for _, v := range operands {
		if _, e := convert(v); e != api.OK {
			return value.Type(v), true
		}
	}
	return "", false
}
