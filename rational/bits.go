package rational

import "scripting/api"

// Bits returns the result of a bitwise operator on 32-bit integers.
func Bits(op int, a, b api.Num) (api.Num, api.Errno) {
	if !bitwise(op) || !Valid(a) || op != api.OpBnot && !Valid(b) {
		return api.Num{}, api.ErrArg
	}
	m, whole := Whole(a)
	n := 0
	if whole && op != api.OpBnot {
		n, whole = Whole(b)
	}
	if !whole {
		return api.Num{}, api.ErrType
	}
	return Int(int(int32(combine(op, m, n))))
}

// bitwise reports whether op is a bitwise operator.
func bitwise(op int) bool {
	switch op {
	case api.OpAnd, api.OpOr, api.OpXor, api.OpShl, api.OpShr, api.OpBnot:
		return true
	}
	return false
}

// combine returns the bits of the result of a bitwise operator.
func combine(op, m, n int) uint32 {
	x, y := uint32(m), uint32(n)
	switch op {
	case api.OpAnd:
		return x & y
	case api.OpOr:
		return x | y
	case api.OpXor:
		return x ^ y
	case api.OpShl:
		return shift(x, n)
	case api.OpShr:
		return shift(x, -n)
	}
	return ^x
}

// shift moves the bits of x by n to the left, or by -n to the right. Go itself moves all bits out where
// there are 32 or more places.
func shift(x uint32, n int) uint32 {
	if n < 0 {
		return x >> -n
	}
	return x << n
}
