package value_test

import (
	"cmp"
	"math"
	"math/big"
	"slices"
	"strings"
	"testing"

	"scripting/api"
	"scripting/numeral"
	"scripting/value"
)

// allValues returns the values of all kinds, and of some numbers that are no kinds, with all choices of their
// other fields out of a few.
func allValues() []api.Value {
	var list []api.Value
	for kind := -1; kind <= api.Data+1; kind++ {
		for _, n := range []api.Num{{}, {Q: 1}, {P: 1, Q: 1}, {P: 1}, {P: -3, Q: 2}, {P: 2, Q: 2}, {P: api.MaxNum, Q: 1}, {P: api.MaxNum + 1, Q: 1}} {
			for _, s := range []string{"", "a", " 7 ", "1/2", letters(api.MaxString), letters(api.MaxString + 1)} {
				for _, ref := range []int{0, 1, 2, -1, math.MinInt} {
					list = append(list, api.Value{Kind: kind, Num: n, Str: s, Ref: ref})
				}
			}
		}
	}
	return list
}

// isFraction reports whether n is a valid number, by the arithmetic of math/big.
func isFraction(n api.Num) bool {
	if n.Q < 1 || n.Q > api.MaxNum || n.P < -api.MaxNum || n.P > api.MaxNum {
		return false
	}
	r := big.NewRat(int64(n.P), int64(n.Q))
	return r.Num().Int64() == int64(n.P) && r.Denom().Int64() == int64(n.Q)
}

// wantValid reports whether each field of a value is one that its kind may have.
func wantValid(v api.Value) bool {
	least, most := 0, 0 // of Ref
	switch v.Kind {
	case api.Nil, api.Number, api.String, api.Builtin:
	case api.Bool:
		most = 1
	case api.Table, api.Function, api.Thread, api.Data:
		least, most = 1, math.MaxInt
	default:
		return false
	}
	isText := v.Kind == api.String || v.Kind == api.Builtin && v.Str != ""
	return v.Ref >= least && v.Ref <= most &&
		(v.Num == api.Num{}) == (v.Kind != api.Number) && (v.Kind != api.Number || isFraction(v.Num)) &&
		(v.Str == "" && v.Kind != api.Builtin || isText && len(v.Str) <= api.MaxString)
}

// TestAllFields covers P11.1 to P11.3 and P11.5 for values with all choices of fields.
func TestAllFields(t *testing.T) {
	valid := 0
	for _, v := range allValues() {
		if value.Valid(v) != wantValid(v) {
			t.Errorf("Valid(%.99v): %v", v, !wantValid(v))
		}
		if value.Valid(v) {
			valid++
		}
		if want := v.Kind != api.Nil && (v.Kind != api.Bool || v.Ref != 0); value.True(v) != want {
			t.Errorf("True(%.99v): %v", v, !want)
		}
		if value.Type(v) != value.Type(api.Value{Kind: v.Kind}) {
			t.Errorf("Type(%.99v): %q", v, value.Type(v))
		}
		wantNumberAndStr(t, v)
	}
	if valid != 1+2+4+5+4+4*2 {
		t.Errorf("%d valid values", valid)
	}
}

// wantNumberAndStr checks Number and Str of a value from the definition.
func wantNumberAndStr(t *testing.T, v api.Value) {
	t.Helper()
	var wantN api.Num
	wantS, wantE, hasStr := "", api.ErrType, api.ErrType
	switch {
	case v.Kind == api.Number && isFraction(v.Num):
		wantN, wantS, wantE, hasStr = v.Num, numeral.Text(v.Num), api.OK, api.OK
	case v.Kind == api.String:
		wantS, hasStr = v.Str, api.OK
		if n, e := numeral.Parse(v.Str); e == api.OK {
			wantN, wantE = n, api.OK
		}
	}
	if n, e := value.Number(v); n != wantN || e != wantE {
		t.Errorf("Number(%.99v): %v, error %d; want %v, error %d", v, n, int(e), wantN, int(wantE))
	}
	if s, e := value.Str(v); s != wantS || e != hasStr {
		t.Errorf("Str(%.99v): %.99q, error %d; want %.99q, error %d", v, s, int(e), wantS, int(hasStr))
	}
}

// TestLessOfAllFields covers P11.6 for pairs of values with all choices of fields.
func TestLessOfAllFields(t *testing.T) {
	list := allValues()
	for i, a := range list {
		for j := i % 7; j < len(list); j += 7 { // 7 is no divisor of a number of choices, so all pairs of fields meet
			b := list[j]
			want, wantE := false, api.ErrType
			switch {
			case a.Kind != b.Kind:
			case a.Kind == api.Number && isFraction(a.Num) && isFraction(b.Num):
				want, wantE = big.NewRat(int64(a.Num.P), int64(a.Num.Q)).Cmp(big.NewRat(int64(b.Num.P), int64(b.Num.Q))) < 0, api.OK
			case a.Kind == api.String:
				want, wantE = slices.CompareFunc([]byte(a.Str), []byte(b.Str), cmp.Compare[byte]) < 0, api.OK
			}
			if less, e := value.Less(a, b); less != want || e != wantE {
				t.Fatalf("Less(%.99v, %.99v): %v, error %d; want %v, error %d", a, b, less, int(e), want, int(wantE))
			}
		}
	}
}

// numbers returns valid numbers.
func numbers() []api.Value {
	var list []api.Value
	limits := []int{1, 2, 3, 4, 5, 7, 10, 46341, 65536, 1 << 30, 1e9, api.MaxNum - 2, api.MaxNum - 1, api.MaxNum}
	for _, p := range append(limits, 0) {
		for _, q := range limits {
			for _, sign := range []int{1, -1} {
				if n := (api.Num{P: sign * p, Q: q}); isFraction(n) && (p != 0 || sign > 0) {
					list = append(list, api.Value{Kind: api.Number, Num: n})
				}
			}
		}
	}
	return list
}

// strs returns strings, short ones of all bytes that matter and long ones.
func strs() []api.Value {
	list := []api.Value{str("")}
	for i := 0; len(list[i].Str) < 3; i++ {
		for _, c := range []string{"\x00", "0", "a", "\x7f", "\x80", "\xff"} {
			list = append(list, str(list[i].Str+c))
		}
	}
	long := letters(api.MaxString - 1)
	return append(list, str(long), str(long+"w"), str(long+"x"), str("w"+long), str(strings.ToUpper(long)))
}

// TestNumberOfText is P11.8.
func TestNumberOfText(t *testing.T) {
	for _, v := range numbers() {
		if n, e := value.Number(value.OfString(value.Text(v))); n != v.Num || e != api.OK {
			t.Errorf("Number of the string %s: %v, error %d", value.Text(v), n, int(e))
		}
		if s, e := value.Str(v); s != value.Text(v) || e != api.OK {
			t.Errorf("Str(%v): %s, error %d", v.Num, s, int(e))
		}
	}
}

// TestLessIsAnOrder is P11.9: exactly one of the three holds for two values, and less than less is less.
func TestLessIsAnOrder(t *testing.T) {
	for _, list := range [][]api.Value{numbers(), strs()} {
		less := make([][]bool, len(list))
		for i, a := range list {
			less[i] = make([]bool, len(list))
			for j, b := range list {
				ab, e1 := value.Less(a, b)
				ba, e2 := value.Less(b, a)
				less[i][j] = ab
				holds := 0
				for _, is := range []bool{ab, ba, value.Same(a, b)} {
					if is {
						holds++
					}
				}
				if holds != 1 || e1 != api.OK || e2 != api.OK {
					t.Errorf("Less(%.99v, %.99v): %v, the other way round %v, errors %d and %d", a, b, ab, ba, int(e1), int(e2))
				}
			}
		}
		wantTransitive(t, less)
	}
}

// wantTransitive checks that less than less is less.
func wantTransitive(t *testing.T, less [][]bool) {
	t.Helper()
	for i := range less {
		for j := range less {
			for k := range less {
				if less[i][j] && less[j][k] && !less[i][k] {
					t.Fatalf("Less is not transitive for the values %d, %d and %d", i, j, k)
				}
			}
		}
	}
}

// TestOfIsValid is P11.10.
func TestOfIsValid(t *testing.T) {
	for _, b := range []bool{false, true} {
		if v := value.OfBool(b); value.True(v) != b || !value.Valid(v) {
			t.Errorf("OfBool(%v): %v", b, v)
		}
	}
	some := []int{math.MinInt, -1 << 40, -1 << 32, -api.MaxNum - 2, -api.MaxNum - 1, -api.MaxNum, -2, -1, 0, 1, 2, 3, 6, api.MaxNum, api.MaxNum + 1, api.MaxNum + 2, 1 << 32, 1<<32 + 1, math.MaxInt}
	for _, p := range some {
		v := value.OfInt(p)
		if isInt := p >= -api.MaxNum && p <= api.MaxNum; !value.Valid(v) || (v.Kind == api.Number) != isInt || isInt && v.Num.P != p {
			t.Errorf("OfInt(%d): %v", p, v)
		}
		for _, q := range some {
			n := api.Num{P: p, Q: q}
			if v := value.OfNum(n); !value.Valid(v) || (v.Kind == api.Number) != isFraction(n) {
				t.Errorf("OfNum(%v): %v", n, v)
			}
		}
	}
}
