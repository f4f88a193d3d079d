package operate

import (
	"scripting/api"
	"scripting/rational"
	"scripting/value"
)

// operation returns what an operator does without metamethods. A unary one is given its operand twice.
func operation(op int) func(a, b api.Value) (api.Value, api.Errno) {
	switch op {
	case api.OpAdd:
		return ofNumbers(rational.Add)
	case api.OpSub:
		return ofNumbers(rational.Sub)
	case api.OpMul:
		return ofNumbers(rational.Mul)
	case api.OpDiv:
		return ofNumbers(rational.Div)
	case api.OpQuot:
		return ofNumbers(rational.Quot)
	case api.OpMod:
		return ofNumbers(rational.Mod)
	case api.OpPow:
		return ofNumbers(power)
	case api.OpNeg:
		return ofNumbers(func(x, _ api.Num) (api.Num, api.Errno) { return rational.Neg(x) })
	case api.OpConcat:
		return join
	case api.OpEq:
		return func(a, b api.Value) (api.Value, api.Errno) { return value.OfBool(value.Same(a, b)), api.OK }
	case api.OpNe:
		return func(a, b api.Value) (api.Value, api.Errno) { return value.OfBool(!value.Same(a, b)), api.OK }
	case api.OpLt:
		return func(a, b api.Value) (api.Value, api.Errno) { return isLess(a, b, true) }
	case api.OpLe:
		return func(a, b api.Value) (api.Value, api.Errno) { return isLess(b, a, false) }
	case api.OpGt:
		return func(a, b api.Value) (api.Value, api.Errno) { return isLess(b, a, true) }
	case api.OpGe:
		return func(a, b api.Value) (api.Value, api.Errno) { return isLess(a, b, false) }
	case api.OpNot:
		return func(a, _ api.Value) (api.Value, api.Errno) { return value.OfBool(!value.True(a)), api.OK }
	case api.OpLen:
		return length
	}
	return ofNumbers(func(x, y api.Num) (api.Num, api.Errno) { return rational.Bits(op, x, y) })
}

// ofNumbers returns an operation that converts its operands to numbers.
func ofNumbers(f func(x, y api.Num) (api.Num, api.Errno)) func(a, b api.Value) (api.Value, api.Errno) {
	return func(a, b api.Value) (api.Value, api.Errno) {
		x, e := value.Number(a)
		if e != api.OK {
			return api.Value{}, e
		}
		y, e := value.Number(b)
		if e != api.OK {
			return api.Value{}, e
		}
		n, e := f(x, y)
		return value.OfNum(n), e
	}
}

// power returns x to the power of n. A power that is not defined is not told from one that is out of range.
func power(x, n api.Num) (api.Num, api.Errno) {
	result, e := rational.Pow(x, n)
	if e == api.ErrArg {
		e = api.ErrRange
	}
	return result, e
}

// join returns the string of two strings or numbers.
func join(a, b api.Value) (api.Value, api.Errno) {
	s, e := value.Str(a)
	if e != api.OK {
		return api.Value{}, e
	}
	t, e := value.Str(b)
	switch {
	case e != api.OK:
		return api.Value{}, e
	case len(s)+len(t) > api.MaxString:
		return api.Value{}, api.ErrLong
	}
	return value.OfString(s + t), api.OK
}

// isLess returns whether a is less than b, or, if that is not what is wanted, whether it is not.
func isLess(a, b api.Value, wanted bool) (api.Value, api.Errno) {
	less, e := value.Less(a, b)
	if e != api.OK {
		return api.Value{}, e
	}
	return value.OfBool(less == wanted), api.OK
}

// length returns the number of bytes of a string.
func length(a, _ api.Value) (api.Value, api.Errno) {
	if a.Kind != api.String {
		return api.Value{}, api.ErrType
	}
	return value.OfInt(len(a.Str)), api.OK
}
