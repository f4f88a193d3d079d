package rational_test

import (
	"math"
	"testing"

	"scripting/api"
	"scripting/rational"
)

// pattern is an integer of 32 bits in two's complement, its lowest bit first.
type pattern [32]bool

func patternOf(n int) pattern {
	var p pattern
	for i := range p {
		p[i] = n&(1<<i) != 0
	}
	return p
}

// number returns the integer with these bits.
func (p pattern) number() int {
	n := 0
	for i, set := range p {
		if set && i == 31 {
			n -= 1 << 31
		} else if set {
			n += 1 << i
		}
	}
	return n
}

// moved returns the bits moved by n places up (down for a negative n).
func (p pattern) moved(n int) pattern {
	var out pattern
	for i := range p {
		if from := i - n; from >= 0 && from < 32 {
			out[i] = p[from]
		}
	}
	return out
}

// wantBits returns the result of an operator, worked out bit by bit.
func wantBits(op, a, b int) int {
	x, y := patternOf(a), patternOf(b)
	var out pattern
	for i := range out {
		switch op {
		case api.OpAnd:
			out[i] = x[i] && y[i]
		case api.OpOr:
			out[i] = x[i] || y[i]
		case api.OpXor:
			out[i] = x[i] != y[i]
		case api.OpBnot:
			out[i] = !x[i]
		}
	}
	switch op {
	case api.OpShl:
		out = x.moved(b)
	case api.OpShr:
		out = x.moved(-b)
	}
	return out.number()
}

func TestBits(t *testing.T) {
	list := []int{
		0, 1, -1, 2, -2, 3, 4, 15, 16, 28, 30, 31, 32, 33, 63, 64, 65, -3, -30, -31, -32, -33, -64, -65, 255, 1 << 15, 1<<16 - 1, 1 << 16, 0x55555555,
		-0x55555556, 1 << 30, -1 << 30, 1<<30 + 1, api.MaxNum - 1, api.MaxNum, -api.MaxNum, -api.MaxNum + 1,
	}
	for _, op := range []int{api.OpAnd, api.OpOr, api.OpXor, api.OpShl, api.OpShr, api.OpBnot} {
		for _, a := range list {
			for _, b := range list {
				value := wantBits(op, a, b)
				want, wantE := num(value, 1), api.OK
				if value == -1<<31 {
					want, wantE = api.Num{}, api.ErrRange
				}
				got, e := rational.Bits(op, num(a, 1), num(b, 1))
				if got != want || e != wantE {
					t.Errorf("Bits(%d, %d, %d): got %v, error %d; want %v, error %d", op, a, b, got, int(e), want, int(wantE))
				}
			}
		}
	}
}

func TestBitsExamples(t *testing.T) {
	for i, x := range []struct {
		op, a, b, want int
		e              api.Errno
	}{
		{api.OpAnd, -1, 255, 255, api.OK}, {api.OpShr, -1, 28, 15, api.OK}, {api.OpBnot, 0, 0, -1, api.OK}, {api.OpShl, 1, 31, 0, api.ErrRange},
		{api.OpShl, 3, 31, 0, api.ErrRange}, {api.OpShl, 1, 30, 1 << 30, api.OK}, {api.OpShl, 1, 32, 0, api.OK}, {api.OpShl, -1, -32, 0, api.OK},
		{api.OpShr, 1, -31, 0, api.ErrRange}, {api.OpShr, 1, -32, 0, api.OK}, {api.OpBnot, api.MaxNum, 0, 0, api.ErrRange},
		{api.OpAnd, -api.MaxNum, -2, 0, api.ErrRange}, {api.OpXor, -1, api.MaxNum, 0, api.ErrRange}, {api.OpShr, -1, 1, api.MaxNum, api.OK},
		{api.OpShl, 5, api.MaxNum, 0, api.OK}, {api.OpShl, 5, -api.MaxNum, 0, api.OK}, {api.OpShr, 5, -api.MaxNum, 0, api.OK},
	} {
		got, e := rational.Bits(x.op, num(x.a, 1), num(x.b, 1))
		if e != x.e || e == api.OK && got != num(x.want, 1) || e != api.OK && got != (api.Num{}) {
			t.Errorf("case %d: %v, error %d", i, got, int(e))
		}
	}
}

func TestBitsErrors(t *testing.T) {
	one, half := num(1, 1), num(1, 2)
	for _, op := range []int{
		0, -1, api.OpAdd, api.OpSub, api.OpMul, api.OpDiv, api.OpQuot, api.OpMod, api.OpPow, api.OpConcat, api.OpEq, api.OpNe, api.OpLt, api.OpLe, api.OpGt, api.OpGe,
		api.OpNeg, api.OpNot, api.OpLen, api.OpBnot + 1, math.MinInt, math.MaxInt,
	} {
		for _, a := range []api.Num{one, half, {}} {
			got, e := rational.Bits(op, a, one)
			expect(t, "Bits without a bitwise operator", got, e, api.Num{}, api.ErrArg)
		}
	}
	for _, op := range []int{api.OpAnd, api.OpOr, api.OpXor, api.OpShl, api.OpShr} {
		for _, bad := range invalids() {
			for _, other := range []api.Num{one, half, bad} {
				got, e := rational.Bits(op, bad, other)
				expect(t, "Bits of an invalid number", got, e, api.Num{}, api.ErrArg)
				got, e = rational.Bits(op, other, bad)
				expect(t, "Bits with an invalid number", got, e, api.Num{}, api.ErrArg)
			}
		}
		for _, x := range [][2]api.Num{{half, one}, {one, half}, {half, half}, {num(0, 1), num(-3, 2)}} {
			got, e := rational.Bits(op, x[0], x[1])
			expect(t, "Bits of a fraction", got, e, api.Num{}, api.ErrType)
		}
	}
}

func TestBnotIgnoresItsSecondNumber(t *testing.T) {
	for _, b := range append(invalids(), num(1, 2), num(7, 1)) {
		got, e := rational.Bits(api.OpBnot, num(5, 1), b)
		expect(t, "OpBnot", got, e, num(-6, 1), api.OK)
		got, e = rational.Bits(api.OpBnot, num(5, 2), b)
		expect(t, "OpBnot of a fraction", got, e, api.Num{}, api.ErrType)
	}
	for _, bad := range invalids() {
		got, e := rational.Bits(api.OpBnot, bad, num(1, 1))
		expect(t, "OpBnot of an invalid number", got, e, api.Num{}, api.ErrArg)
	}
}
