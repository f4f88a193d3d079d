package numeral_test

import (
	"math"
	"math/big"
	"strconv"
	"strings"
	"testing"

	"scripting/api"
	"scripting/numeral"
)

// num returns the number p/q as it is.
func num(p, q int) api.Num { return api.Num{P: p, Q: q} }

// samples returns valid numbers: small ones of all kinds, and those at the limits.
func samples() []api.Num {
	var list []api.Num
	for p := -25; p <= 25; p++ {
		for q := 1; q <= 16; q++ {
			if new(big.Int).GCD(nil, nil, big.NewInt(int64(max(p, -p))), big.NewInt(int64(q))).Int64() == 1 {
				list = append(list, num(p, q))
			}
		}
	}
	for _, n := range []int{99, 125, 999, 1000, 9999999, 1 << 20, 1 << 30, 1000000000, api.MaxNum - 1, api.MaxNum} {
		list = append(list, num(n, 1), num(-n, 1), num(1, n), num(-1, n), num(n, n-1), num(-n, n-1), num(n-1, n), num(1-n, n))
	}
	return append(list, num(api.MaxNum, 2), num(-api.MaxNum, 1<<30), num(199, 200), num(1999999999, 2000000000), num(-1999, 2000))
}

// invalids returns numbers that are not valid.
func invalids() []api.Num {
	return []api.Num{{}, num(1, 0), num(0, 2), num(2, 4), num(1, -1), num(api.MaxNum+1, 1), num(-api.MaxNum-1, 1), num(1, api.MaxNum+1), num(math.MinInt, 1), num(1, math.MinInt)}
}

func TestText(t *testing.T) {
	for i, x := range []struct {
		a    api.Num
		want string
	}{
		{num(-7, 3), "-7/3"}, {num(4, 1), "4"}, {num(0, 1), "0"}, {num(-12, 1), "-12"}, {num(1, 2), "1/2"},
		{num(api.MaxNum, 1), "2147483647"}, {num(-api.MaxNum, 1), "-2147483647"}, {num(1, api.MaxNum), "1/2147483647"}, {num(-api.MaxNum, 2), "-2147483647/2"},
	} {
		if got := numeral.Text(x.a); got != x.want {
			t.Errorf("case %d: %q, want %q", i, got, x.want)
		}
	}
	for _, a := range invalids() {
		if got := numeral.Text(a); got != "nan" {
			t.Errorf("Text(%v) is %q", a, got)
		}
	}
}

func TestFixed(t *testing.T) {
	for i, x := range []struct {
		a      api.Num
		places int
		want   string
	}{
		{num(1, 8), 2, "0.12"}, {num(3, 8), 2, "0.38"}, {num(-1, 8), 2, "-0.12"}, {num(-1, 3), 4, "-0.3333"}, {num(-1, 3), 0, "0"}, {num(-1, 2), 0, "0"},
		{num(1, 2), 0, "0"}, {num(3, 2), 0, "2"}, {num(-3, 2), 0, "-2"}, {num(5, 2), 0, "2"}, {num(-5, 2), 0, "-2"}, {num(2, 3), 0, "1"}, {num(-2, 3), 0, "-1"},
		{num(0, 1), 0, "0"}, {num(0, 1), 3, "0.000"}, {num(7, 1), 2, "7.00"}, {num(-7, 1), 12, "-7.000000000000"}, {num(199, 200), 1, "1.0"},
		{num(-1999, 2000), 2, "-1.00"}, {num(1, 20), 1, "0.0"}, {num(-1, 20), 1, "0.0"}, {num(3, 20), 1, "0.2"}, {num(-1, 10), 1, "-0.1"}, {num(1, 100), 3, "0.010"},
		{num(19, 2), 0, "10"}, {num(9, 1), 0, "9"}, {num(99, 100), 1, "1.0"}, {num(2, 3), 12, "0.666666666667"}, {num(1, api.MaxNum), 12, "0.000000000466"},
		{num(api.MaxNum, 1), 12, "2147483647.000000000000"}, {num(-api.MaxNum, 2), 12, "-1073741823.500000000000"}, {num(-api.MaxNum, 2), 0, "-1073741824"},
	} {
		if got, e := numeral.Fixed(x.a, x.places); got != x.want || e != api.OK {
			t.Errorf("case %d: %q, error %d; want %q", i, got, int(e), x.want)
		}
	}
}

// wantFixed returns a in decimal, from its exact value.
func wantFixed(a api.Num, places int) string {
	unit := new(big.Int).Exp(big.NewInt(10), big.NewInt(int64(places)), nil)
	scaled := new(big.Int).Mul(big.NewInt(int64(max(a.P, -a.P))), unit)
	n, rest := new(big.Int).QuoRem(scaled, big.NewInt(int64(a.Q)), new(big.Int))
	half := rest.Lsh(rest, 1).Cmp(big.NewInt(int64(a.Q)))
	if half > 0 || half == 0 && n.Bit(0) == 1 {
		n.Add(n, big.NewInt(1))
	}
	text := n.String()
	if len(text) <= places {
		text = strings.Repeat("0", places+1-len(text)) + text
	}
	if places > 0 {
		text = text[:len(text)-places] + "." + text[len(text)-places:]
	}
	if a.P < 0 && n.Sign() != 0 {
		text = "-" + text
	}
	return text
}

func TestFixedOfAllSamples(t *testing.T) {
	for _, a := range samples() {
		for places := 0; places <= 12; places++ {
			want := wantFixed(a, places)
			if got, e := numeral.Fixed(a, places); got != want || e != api.OK {
				t.Errorf("Fixed(%v, %d): %q, error %d; want %q", a, places, got, int(e), want)
			}
		}
	}
}

func TestFixedErrors(t *testing.T) {
	for _, places := range []int{-1, 13, 14, math.MinInt, math.MaxInt} {
		if got, e := numeral.Fixed(num(1, 2), places); got != "" || e != api.ErrArg {
			t.Errorf("Fixed with %d places: %q, error %d", places, got, int(e))
		}
	}
	for _, a := range invalids() {
		if got, e := numeral.Fixed(a, 2); got != "" || e != api.ErrArg {
			t.Errorf("Fixed(%v): %q, error %d", a, got, int(e))
		}
	}
}

func TestBase(t *testing.T) {
	for i, x := range []struct {
		n, base int
		want    string
	}{
		{255, 16, "ff"}, {-5, 2, "-101"}, {0, 2, "0"}, {0, 36, "0"}, {35, 36, "z"}, {36, 36, "10"}, {10, 10, "10"}, {-10, 11, "-a"}, {1, 2, "1"}, {-1, 36, "-1"},
		{math.MaxInt, 2, strings.Repeat("1", 63)}, {math.MinInt, 2, "-1" + strings.Repeat("0", 63)}, {math.MinInt, 16, "-8000000000000000"}, {math.MinInt, 10, "-9223372036854775808"},
	} {
		if got, e := numeral.Base(x.n, x.base); got != x.want || e != api.OK {
			t.Errorf("case %d: %q, error %d; want %q", i, got, int(e), x.want)
		}
	}
	for base := 2; base <= 36; base++ {
		for _, n := range []int{0, 1, -1, 2, 9, 10, 35, 36, 37, -37, 1295, 1296, 1 << 31, -1 << 31, api.MaxNum, 1 << 62, math.MaxInt, -math.MaxInt, math.MinInt} {
			want := strconv.FormatInt(int64(n), base)
			if got, e := numeral.Base(n, base); got != want || e != api.OK {
				t.Errorf("Base(%d, %d): %q, error %d; want %q", n, base, got, int(e), want)
			}
		}
	}
	for _, base := range []int{1, 0, -1, -2, 37, 64, math.MinInt, math.MaxInt} {
		if got, e := numeral.Base(5, base); got != "" || e != api.ErrArg {
			t.Errorf("Base with base %d: %q, error %d", base, got, int(e))
		}
	}
}

// TestTextIsParsed is P2.6.
func TestTextIsParsed(t *testing.T) {
	for _, a := range samples() {
		if got, e := numeral.Parse(numeral.Text(a)); got != a || e != api.OK {
			t.Errorf("Parse(Text(%v)): %v, error %d", a, got, int(e))
		}
	}
}

// TestTextsOfIntegersAgree is P2.8.
func TestTextsOfIntegersAgree(t *testing.T) {
	for _, a := range samples() {
		if a.Q != 1 {
			continue
		}
		fixed, e1 := numeral.Fixed(a, 0)
		based, e2 := numeral.Base(a.P, 10)
		if text := numeral.Text(a); e1 != api.OK || e2 != api.OK || fixed != text || based != text {
			t.Errorf("%v: Text %q, Fixed %q, Base %q", a, text, fixed, based)
		}
	}
}
