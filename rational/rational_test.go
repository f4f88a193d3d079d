package rational_test

import (
	"math"
	"math/big"
	"testing"

	"scripting/api"
	"scripting/rational"
)

type binary func(a, b api.Num) (api.Num, api.Errno)

type unary func(a api.Num) (api.Num, api.Errno)

// num returns the number p/q as it is.
func num(p, q int) api.Num { return api.Num{P: p, Q: q} }

// exact returns the value of a number.
func exact(a api.Num) *big.Rat { return big.NewRat(int64(a.P), int64(a.Q)) }

// rounded returns the number with a value, or ErrRange: what every exact function has to return.
func rounded(r *big.Rat) (api.Num, api.Errno) {
	limit := big.NewInt(api.MaxNum)
	if r.Num().CmpAbs(limit) > 0 || r.Denom().Cmp(limit) > 0 {
		return api.Num{}, api.ErrRange
	}
	return num(int(r.Num().Int64()), int(r.Denom().Int64())), api.OK
}

// floorOf returns the greatest integer that is at most r.
func floorOf(r *big.Rat) *big.Rat {
	// The Euclidean division of package big rounds down for a positive divisor.
	return new(big.Rat).SetInt(new(big.Int).Div(r.Num(), r.Denom()))
}

// samples returns valid numbers: small ones of all kinds, and those at the limits.
func samples() []api.Num {
	var list []api.Num
	for p := -6; p <= 6; p++ {
		for q := 1; q <= 6; q++ {
			if new(big.Int).GCD(nil, nil, big.NewInt(int64(max(p, -p))), big.NewInt(int64(q))).Int64() == 1 {
				list = append(list, num(p, q))
			}
		}
	}
	for _, n := range []int{10, 31, 63, 64, 65, 46340, 46341, 1 << 16, 1 << 30, api.MaxNum - 1, api.MaxNum} {
		list = append(list, num(n, 1), num(-n, 1), num(1, n), num(-1, n), num(n, n-1), num(-n, n-1), num(n-1, n))
	}
	return append(list, num(api.MaxNum, 2), num(-api.MaxNum, 2), num(2, api.MaxNum), num(1<<30, 3), num(65537, 65521))
}

// invalids returns numbers that are not valid.
func invalids() []api.Num {
	return []api.Num{
		{}, num(1, 0), num(0, 2), num(2, 4), num(-2, 4), num(1, -1), num(-1, -2), num(0, -1), num(api.MaxNum+1, 1), num(-api.MaxNum-1, 1),
		num(1, api.MaxNum+1), num(math.MinInt, 1), num(math.MaxInt, 1), num(1, math.MinInt), num(1, math.MaxInt),
		num(math.MinInt, math.MinInt), num(1, math.MinInt+1), num(3, 3), num(api.MaxNum, api.MaxNum),
	}
}

// expect reports a result that differs from the one that is wanted; with an error, the number must be zero.
func expect(t *testing.T, name string, got api.Num, e api.Errno, want api.Num, wantE api.Errno) {
	t.Helper()
	if got != want || e != wantE {
		t.Errorf("%s: got %v, error %d; want %v, error %d", name, got, int(e), want, int(wantE))
	}
}

func TestMake(t *testing.T) {
	const most = 1 << 62
	for i, x := range []struct {
		p, q int
		want api.Num
		e    api.Errno
	}{
		{6, -4, num(-3, 2), api.OK}, {-6, -4, num(3, 2), api.OK}, {10, 4, num(5, 2), api.OK}, {0, 5, num(0, 1), api.OK}, {0, -most, num(0, 1), api.OK},
		{1, api.MaxNum, num(1, api.MaxNum), api.OK}, {1, -api.MaxNum, num(-1, api.MaxNum), api.OK}, {1, api.MaxNum + 1, api.Num{}, api.ErrRange},
		{api.MaxNum, 1, num(api.MaxNum, 1), api.OK}, {-api.MaxNum, 1, num(-api.MaxNum, 1), api.OK}, {api.MaxNum + 1, 1, api.Num{}, api.ErrRange},
		{-api.MaxNum - 1, 1, api.Num{}, api.ErrRange}, {api.MaxNum + 1, 2, num(1<<30, 1), api.OK}, {2, 2 * api.MaxNum, num(1, api.MaxNum), api.OK},
		{1, 0, api.Num{}, api.ErrZero}, {0, 0, api.Num{}, api.ErrZero}, {most + 1, 0, api.Num{}, api.ErrZero}, {math.MinInt, 0, api.Num{}, api.ErrZero},
		{most, most, num(1, 1), api.OK}, {-most, most, num(-1, 1), api.OK}, {most, -most, num(-1, 1), api.OK}, {-most, -most, num(1, 1), api.OK},
		{most, most - 1, api.Num{}, api.ErrRange}, {most, 1 << 32, num(1<<30, 1), api.OK}, {most, 1 << 31, api.Num{}, api.ErrRange},
		{1 << 31, most, num(1, 1<<31), api.ErrRange}, {1 << 32, most, num(1, 1<<30), api.OK},
		{most + 1, most + 1, api.Num{}, api.ErrRange}, {-most - 1, -most - 1, api.Num{}, api.ErrRange}, {most + 2, 2, api.Num{}, api.ErrRange},
		{0, most + 1, api.Num{}, api.ErrRange}, {0, -most - 1, api.Num{}, api.ErrRange}, {0, math.MinInt, api.Num{}, api.ErrRange},
		{math.MinInt, math.MinInt, api.Num{}, api.ErrRange}, {math.MinInt, 1, api.Num{}, api.ErrRange}, {1, math.MinInt, api.Num{}, api.ErrRange},
		{math.MaxInt, math.MaxInt, api.Num{}, api.ErrRange},
		{most + 1<<32, 1 << 32, api.Num{}, api.ErrRange}, // the value is in range, the numerator is not
		{1 << 32, most + 1<<32, api.Num{}, api.ErrRange},
		{-most - 1<<32, 1 << 32, api.Num{}, api.ErrRange},
	} {
		want := x.want
		if x.e != api.OK {
			want = api.Num{}
		}
		got, e := rational.Make(x.p, x.q)
		if got != want || e != x.e {
			t.Errorf("case %d: Make(%d, %d): got %v, error %d", i, x.p, x.q, got, int(e))
		}
	}
}

func TestMakeOfAllSmallFractions(t *testing.T) {
	for p := -40; p <= 40; p++ {
		for q := -40; q <= 40; q++ {
			if q == 0 {
				continue
			}
			want, _ := rounded(big.NewRat(int64(p), int64(q)))
			got, e := rational.Make(p, q)
			expect(t, "Make", got, e, want, api.OK)
		}
	}
}

func TestInt(t *testing.T) {
	for _, n := range []int{0, 1, -1, 7, api.MaxNum, -api.MaxNum} {
		got, e := rational.Int(n)
		expect(t, "Int", got, e, num(n, 1), api.OK)
	}
	for _, n := range []int{api.MaxNum + 1, -api.MaxNum - 1, math.MaxInt, math.MinInt} {
		got, e := rational.Int(n)
		expect(t, "Int", got, e, api.Num{}, api.ErrRange)
	}
}

func TestValidAndWhole(t *testing.T) {
	for _, a := range samples() {
		if !rational.Valid(a) {
			t.Errorf("Valid(%v) is false", a)
		}
		n, ok := rational.Whole(a)
		if wantOK := a.Q == 1; ok != wantOK || ok && n != a.P || !ok && n != 0 {
			t.Errorf("Whole(%v): %d, %v", a, n, ok)
		}
	}
	for _, a := range invalids() {
		if rational.Valid(a) {
			t.Errorf("Valid(%v) is true", a)
		}
		if n, ok := rational.Whole(a); n != 0 || ok {
			t.Errorf("Whole(%v): %d, %v", a, n, ok)
		}
	}
	for p := -30; p <= 30; p++ {
		for q := -2; q <= 30; q++ {
			want := q > 0 && new(big.Int).GCD(nil, nil, big.NewInt(int64(max(p, -p))), big.NewInt(int64(q))).Int64() == 1
			if rational.Valid(num(p, q)) != want {
				t.Errorf("Valid(%d/%d) is %v", p, q, !want)
			}
		}
	}
}

func TestInvalidArguments(t *testing.T) {
	for _, bad := range invalids() {
		for name, f := range map[string]unary{"Neg": rational.Neg, "Floor": rational.Floor, "Ceil": rational.Ceil} {
			got, e := f(bad)
			expect(t, name, got, e, api.Num{}, api.ErrArg)
		}
		for name, f := range map[string]binary{
			"Add": rational.Add, "Sub": rational.Sub, "Mul": rational.Mul, "Div": rational.Div, "Quot": rational.Quot, "Mod": rational.Mod, "Pow": rational.Pow,
		} {
			for _, good := range []api.Num{num(1, 1), num(0, 1), num(2, 3)} {
				got, e := f(bad, good)
				expect(t, name, got, e, api.Num{}, api.ErrArg)
				got, e = f(good, bad)
				expect(t, name, got, e, api.Num{}, api.ErrArg)
			}
			got, e := f(bad, bad)
			expect(t, name, got, e, api.Num{}, api.ErrArg)
		}
	}
}

// wantQuotient returns what Quot and Mod have to return for b other than 0.
func wantQuotient(a, b api.Num) (quot, mod *big.Rat) {
	quot = floorOf(new(big.Rat).Quo(exact(a), exact(b)))
	return quot, new(big.Rat).Sub(exact(a), new(big.Rat).Mul(exact(b), quot))
}

func TestArithmetic(t *testing.T) {
	for _, a := range samples() {
		want, wantE := rounded(new(big.Rat).Neg(exact(a)))
		got, e := rational.Neg(a)
		expect(t, "Neg", got, e, want, wantE)
		for _, b := range samples() {
			check := func(name string, f binary, value *big.Rat) {
				want, wantE := rounded(value)
				got, e := f(a, b)
				if got != want || e != wantE {
					t.Errorf("%s(%v, %v): got %v, error %d; want %v, error %d", name, a, b, got, int(e), want, int(wantE))
				}
			}
			check("Add", rational.Add, new(big.Rat).Add(exact(a), exact(b)))
			check("Sub", rational.Sub, new(big.Rat).Sub(exact(a), exact(b)))
			check("Mul", rational.Mul, new(big.Rat).Mul(exact(a), exact(b)))
			if b.P == 0 {
				continue
			}
			quot, mod := wantQuotient(a, b)
			check("Div", rational.Div, new(big.Rat).Quo(exact(a), exact(b)))
			check("Quot", rational.Quot, quot)
			check("Mod", rational.Mod, mod)
		}
	}
}

func TestDivisionByZero(t *testing.T) {
	for name, f := range map[string]binary{"Div": rational.Div, "Quot": rational.Quot, "Mod": rational.Mod} {
		for _, a := range samples() {
			got, e := f(a, num(0, 1))
			expect(t, name, got, e, api.Num{}, api.ErrZero)
		}
	}
}

func TestExamplesOfTheChapter(t *testing.T) {
	for i, x := range []struct {
		f    binary
		a, b api.Num
		want api.Num
		e    api.Errno
	}{
		{rational.Add, num(1, 3), num(1, 6), num(1, 2), api.OK},
		{rational.Sub, num(5, 2), num(1, 2), num(2, 1), api.OK},
		{rational.Mul, num(api.MaxNum, 1), num(2, 1), api.Num{}, api.ErrRange},
		{rational.Div, num(api.MaxNum, 1), num(api.MaxNum, 1), num(1, 1), api.OK},
		{rational.Quot, num(7, 1), num(-2, 1), num(-4, 1), api.OK},
		{rational.Mod, num(7, 1), num(-2, 1), num(-1, 1), api.OK},
		{rational.Mod, num(5, 2), num(1, 1), num(1, 2), api.OK},
		{rational.Quot, num(api.MaxNum, 1), num(1, 2), api.Num{}, api.ErrRange},
		{rational.Mod, num(api.MaxNum, 1), num(1, 2), num(0, 1), api.OK},
		{rational.Mod, num(1, 2), num(1, api.MaxNum), api.Num{}, api.ErrRange},
		{rational.Mod, num(-7, 1), num(2, 1), num(1, 1), api.OK},
		{rational.Quot, num(-api.MaxNum, 1), num(1, 1), num(-api.MaxNum, 1), api.OK},
		{rational.Quot, num(-api.MaxNum, 1), num(api.MaxNum-1, api.MaxNum), api.Num{}, api.ErrRange},
	} {
		got, e := x.f(x.a, x.b)
		if got != x.want || e != x.e {
			t.Errorf("case %d: %v, error %d", i, got, int(e))
		}
	}
}

func TestPow(t *testing.T) {
	for _, a := range samples() {
		for n := -64; n <= 64; n++ {
			got, e := rational.Pow(a, num(n, 1))
			if a.P == 0 && n < 0 {
				expect(t, "Pow of 0", got, e, api.Num{}, api.ErrZero)
				continue
			}
			value := big.NewRat(1, 1)
			for range max(n, -n) {
				value.Mul(value, exact(a))
			}
			if n < 0 {
				value.Inv(value)
			}
			want, wantE := rounded(value)
			if got != want || e != wantE {
				t.Errorf("Pow(%v, %d): got %v, error %d; want %v, error %d", a, n, got, int(e), want, int(wantE))
			}
		}
		for _, n := range []api.Num{num(65, 1), num(-65, 1), num(1, 2), num(-3, 2), num(api.MaxNum, 1), num(-api.MaxNum, 1), num(64, 2)} {
			got, e := rational.Pow(a, n)
			expect(t, "Pow with an improper exponent", got, e, api.Num{}, api.ErrArg)
		}
	}
}

func TestCmp(t *testing.T) {
	for _, a := range samples() {
		for _, b := range samples() {
			if got, want := rational.Cmp(a, b), exact(a).Cmp(exact(b)); got != want {
				t.Errorf("Cmp(%v, %v) is %d, want %d", a, b, got, want)
			}
		}
	}
}

func TestCmpOfInvalidNumbers(t *testing.T) {
	for i, x := range []struct {
		a, b api.Num
		want int
	}{
		{num(2, 4), num(2, 3), 1}, {num(2, 3), num(2, 4), -1}, {num(2, 4), num(2, 4), 0}, {num(2, 4), num(3, 1000), -1}, {num(3, 1000), num(2, 4), 1},
		{num(1, 2), num(2, 1000), -1}, {num(1, 0), num(1, 1), -1}, {num(1, 1), num(1, 0), 1}, {api.Num{}, api.Num{}, 0}, {num(-1, 0), num(-2, 0), 1},
		{num(math.MinInt, 1), num(math.MaxInt, 1), -1}, {num(math.MaxInt, 1), num(math.MinInt, 1), 1}, {num(0, math.MinInt), num(0, math.MaxInt), -1},
		{num(2, 4), num(1, 2), 1}, {num(1, 2), num(2, 4), -1}, {num(5, -1), num(4, 1), 1},
	} {
		if got := rational.Cmp(x.a, x.b); got != x.want {
			t.Errorf("case %d: Cmp(%v, %v) is %d, want %d", i, x.a, x.b, got, x.want)
		}
	}
}

func TestFloorAndCeil(t *testing.T) {
	for _, a := range samples() {
		want, wantE := rounded(floorOf(exact(a)))
		got, e := rational.Floor(a)
		expect(t, "Floor", got, e, want, wantE)
		want, wantE = rounded(new(big.Rat).Neg(floorOf(new(big.Rat).Neg(exact(a)))))
		got, e = rational.Ceil(a)
		expect(t, "Ceil", got, e, want, wantE)
	}
	got, e := rational.Floor(num(-1, 2))
	expect(t, "Floor(-1/2)", got, e, num(-1, 1), api.OK)
	got, e = rational.Ceil(num(-1, 2))
	expect(t, "Ceil(-1/2)", got, e, num(0, 1), api.OK)
}
