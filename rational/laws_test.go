package rational_test

import (
	"testing"

	"scripting/api"
	"scripting/rational"
)

// fewSamples returns numbers that are few enough for tests of three numbers at a time.
func fewSamples() []api.Num {
	return []api.Num{
		num(0, 1), num(1, 1), num(-1, 1), num(1, 2), num(-1, 2), num(2, 3), num(-3, 2), num(5, 6), num(7, 1), num(-8, 1), num(46341, 1), num(1, 46341),
		num(1<<30, 1), num(1, 1<<30), num(api.MaxNum, 1), num(-api.MaxNum, 1), num(1, api.MaxNum), num(-1, api.MaxNum), num(api.MaxNum, api.MaxNum-1),
	}
}

// TestResultsAreValid is P1.9.
func TestResultsAreValid(t *testing.T) {
	check := func(name string, n api.Num, e api.Errno) {
		if e == api.OK && !rational.Valid(n) {
			t.Errorf("%s: %v is not valid", name, n)
		}
		if e != api.OK && n != (api.Num{}) {
			t.Errorf("%s: %v with error %d", name, n, int(e))
		}
	}
	for _, a := range samples() {
		made, e := rational.Make(a.P, a.Q)
		expect(t, "Make of a valid number", made, e, a, api.OK)
		for name, f := range map[string]unary{"Neg": rational.Neg, "Floor": rational.Floor, "Ceil": rational.Ceil} {
			n, e := f(a)
			check(name, n, e)
		}
		for _, b := range samples() {
			for name, f := range map[string]binary{
				"Add": rational.Add, "Sub": rational.Sub, "Mul": rational.Mul, "Div": rational.Div, "Quot": rational.Quot, "Mod": rational.Mod, "Pow": rational.Pow,
			} {
				n, e := f(a, b)
				check(name, n, e)
			}
		}
	}
}

// TestAddAndMulLaws is P1.10 for commutativity, associativity and distributivity.
func TestAddAndMulLaws(t *testing.T) {
	for _, a := range fewSamples() {
		for _, b := range fewSamples() {
			for name, f := range map[string]binary{"Add": rational.Add, "Mul": rational.Mul} {
				left, leftE := f(a, b)
				right, rightE := f(b, a)
				expect(t, name+" is commutative", left, leftE, right, rightE)
				for _, c := range fewSamples() {
					associate(t, name, f, a, b, c)
				}
			}
			for _, c := range fewSamples() {
				distribute(t, a, b, c)
			}
		}
	}
}

// associate checks f(f(a, b), c) against f(a, f(b, c)) where all of them exist.
func associate(t *testing.T, name string, f binary, a, b, c api.Num) {
	t.Helper()
	ab, e1 := f(a, b)
	bc, e2 := f(b, c)
	left, e3 := f(ab, c)
	right, e4 := f(a, bc)
	if e1 == api.OK && e2 == api.OK && e3 == api.OK && e4 == api.OK && left != right {
		t.Errorf("%s of %v, %v, %v is not associative: %v, %v", name, a, b, c, left, right)
	}
}

// distribute checks a * (b + c) against a * b + a * c where all of them exist.
func distribute(t *testing.T, a, b, c api.Num) {
	t.Helper()
	sum, e1 := rational.Add(b, c)
	left, e2 := rational.Mul(a, sum)
	ab, e3 := rational.Mul(a, b)
	ac, e4 := rational.Mul(a, c)
	right, e5 := rational.Add(ab, ac)
	if e1 == api.OK && e2 == api.OK && e3 == api.OK && e4 == api.OK && e5 == api.OK && left != right {
		t.Errorf("%v * (%v + %v): %v, %v", a, b, c, left, right)
	}
}

// TestInverses is P1.10 for Sub and Div.
func TestInverses(t *testing.T) {
	for _, a := range samples() {
		for _, b := range samples() {
			negative, _ := rational.Neg(b)
			want, wantE := rational.Add(a, negative)
			got, e := rational.Sub(a, b)
			expect(t, "Sub and Add of Neg", got, e, want, wantE)
			product, e := rational.Mul(a, b)
			if e != api.OK || b.P == 0 {
				continue
			}
			got, e = rational.Div(product, b)
			expect(t, "Div of Mul", got, e, a, api.OK)
		}
	}
}

// TestQuotientAndRemainder is P1.11.
func TestQuotientAndRemainder(t *testing.T) {
	zero := num(0, 1)
	for _, a := range samples() {
		for _, b := range samples() {
			rest, restE := rational.Mod(a, b)
			if restE != api.OK {
				continue
			}
			if rest != zero && rational.Cmp(rest, zero) != rational.Cmp(b, zero) {
				t.Errorf("Mod(%v, %v) is %v, with another sign", a, b, rest)
			}
			if rational.Cmp(size(rest), size(b)) >= 0 {
				t.Errorf("Mod(%v, %v) is %v, not closer to 0", a, b, rest)
			}
			quot, e1 := rational.Quot(a, b)
			product, e2 := rational.Mul(b, quot)
			sum, e3 := rational.Add(product, rest)
			if e1 == api.OK && e2 == api.OK && e3 == api.OK && sum != a {
				t.Errorf("%v is not %v * %v + %v", a, b, quot, rest)
			}
		}
	}
}

// size returns the absolute value of a.
func size(a api.Num) api.Num { return num(max(a.P, -a.P), a.Q) }

// TestCmpIsATotalOrder is P1.12.
func TestCmpIsATotalOrder(t *testing.T) {
	for _, a := range fewSamples() {
		for _, b := range fewSamples() {
			order := rational.Cmp(a, b)
			if order != -rational.Cmp(b, a) || (order == 0) != (a == b) {
				t.Errorf("Cmp(%v, %v) is %d", a, b, order)
			}
			for _, c := range fewSamples() {
				if order <= 0 && rational.Cmp(b, c) <= 0 && rational.Cmp(a, c) > 0 {
					t.Errorf("Cmp is not transitive for %v, %v, %v", a, b, c)
				}
				ac, e1 := rational.Add(a, c)
				bc, e2 := rational.Add(b, c)
				if e1 == api.OK && e2 == api.OK && rational.Cmp(ac, bc) != order {
					t.Errorf("Add does not preserve the order of %v, %v with %v", a, b, c)
				}
			}
		}
	}
}
