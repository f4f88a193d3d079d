package numeral_test

import (
	"math"
	"math/big"
	"regexp"
	"strings"
	"testing"

	"scripting/api"
	"scripting/numeral"
	"scripting/rational"
)

var zeros = strings.Repeat("0", 5000)

func TestParse(t *testing.T) {
	for _, x := range []struct {
		s    string
		want api.Num
	}{
		{"0", num(0, 1)}, {"7", num(7, 1)}, {"-7", num(-7, 1)}, {"007", num(7, 1)}, {"-0", num(0, 1)}, {"-0.0", num(0, 1)}, {"-0/5", num(0, 1)},
		{" 1.25 ", num(5, 4)}, {"-0x1F", num(-31, 1)}, {"6/4", num(3, 2)}, {"0.50", num(1, 2)}, {"-6/4", num(-3, 2)}, {"006/004", num(3, 2)},
		{"0x0", num(0, 1)}, {"0XaBcDeF", num(0xabcdef, 1)}, {"0x7fffffff", num(api.MaxNum, 1)}, {"-0X7FFFFFFF", num(-api.MaxNum, 1)}, {"0x00000000000000000000009", num(9, 1)},
		{"\t\n\r 12 \r\n\t", num(12, 1)}, {"2147483647", num(api.MaxNum, 1)}, {"-2147483647", num(-api.MaxNum, 1)}, {"1/2147483647", num(1, api.MaxNum)},
		{"0.000000001", num(1, 1000000000)}, {"2.000000000", num(2, 1)}, {"-1.500000000", num(-3, 2)}, {"0.999999999", num(999999999, 1000000000)},
		{"4611686018427387904/4611686018427387904", num(1, 1)}, {"4611686018427387904/4294967296", num(1<<30, 1)}, {"4294967296/4611686018427387904", num(1, 1<<30)},
		{zeros + "12", num(12, 1)}, {"0x" + zeros + "C", num(12, 1)}, {zeros + "1.5", num(3, 2)}, {zeros + "3/" + zeros + "4", num(3, 4)},
	} {
		if got, e := numeral.Parse(x.s); got != x.want || e != api.OK {
			t.Errorf("Parse(%.40q): %v, error %d; want %v", x.s, got, int(e), x.want)
		}
	}
}

func TestParseErrors(t *testing.T) {
	for _, s := range []string{
		"", " ", "-", "--1", "- 1", "+1", "1.", ".5", ".", "1..2", "1.2.3", "1.-2", "0x", "0X", "0xg", "0x1g", "0x1.5", "x1", "0y1", "1e5", "1_000", "1 2", "0x 1",
		"1/", "/2", "/", "1/2/3", "1/-2", "-1/-2", "1 /2", "1/ 2", "1.5/2", "1/2.5", "0x1/2", "1/0x2", "a", "1a", "0b1", "inf", "nan", "\v1", "1\f", "\u00a01", "1\x00", "\xff", "٣", "0xＦ",
		"-" + zeros + "x", "1//2", "1/2 3", "a/0", "1/0x0", "99999999999999999999/", "99999999999999999999x",
	} {
		if got, e := numeral.Parse(s); got != (api.Num{}) || e != api.ErrForm {
			t.Errorf("Parse(%.40q): %v, error %d, want ErrForm", s, got, int(e))
		}
	}
	for _, s := range []string{
		"1/0", "-1/0", "0/0", "1/000", "0.0000000001", "1.0000000000", "0.0000000000", "-0.0000000000", "2147483648", "-2147483648", "0x80000000", "-0x80000000",
		"0x100000000000000000000001", "4611686018427387904", "4611686018427387905/4611686018427387905", "1/4611686018427387905", "4611686018427387905/1",
		"18446744073709551616/18446744073709551616", "18446744073709551617", "0x10000000000000001", "1/2147483648", "2147483648/1", "2147483648.5",
		"4611686018.427387904", "4611686018.427387905", "4611686018427387904.0", "1" + zeros, "0x1" + zeros, "1" + zeros + "/1" + zeros, "1." + zeros, "0.1" + zeros,
		"99999999999999999999/0", "0/99999999999999999999",
	} {
		if got, e := numeral.Parse(s); got != (api.Num{}) || e != api.ErrRange {
			t.Errorf("Parse(%.40q): %v, error %d, want ErrRange", s, got, int(e))
		}
	}
}

var (
	numeralForm  = regexp.MustCompile(`^(0[xX][0-9a-fA-F]+|[0-9]+\.[0-9]+|[0-9]+)`)
	fractionForm = regexp.MustCompile(`^([0-9]+)/([0-9]+)$`)
)

// wantNumeral returns the number of a numeral, worked out without a limit to the size of integers.
func wantNumeral(s string) (api.Num, api.Errno) {
	if len(s) > 1 && (s[1] == 'x' || s[1] == 'X') {
		n, _ := new(big.Int).SetString(s[2:], 16)
		return wantMake(n, big.NewInt(1))
	}
	whole, behind, _ := strings.Cut(s, ".")
	if len(behind) > 9 {
		return api.Num{}, api.ErrRange
	}
	n, _ := new(big.Int).SetString(whole+behind, 10)
	return wantMake(n, new(big.Int).Exp(big.NewInt(10), big.NewInt(int64(len(behind))), nil))
}

// wantMake returns what rational.Make returns for integers of any size.
func wantMake(p, q *big.Int) (api.Num, api.Errno) {
	most := new(big.Int).Lsh(big.NewInt(1), 62)
	if p.Cmp(most) > 0 || q.Cmp(most) > 0 || q.Sign() == 0 {
		return api.Num{}, api.ErrRange
	}
	return rational.Make(int(p.Int64()), int(q.Int64()))
}

// wantParse returns what Parse has to return.
func wantParse(s string) (api.Num, api.Errno) {
	s = strings.Trim(s, " \t\n\r")
	s, minus := strings.CutPrefix(s, "-")
	var a api.Num
	var e api.Errno
	if m := fractionForm.FindStringSubmatch(s); m != nil {
		p, _ := new(big.Int).SetString(m[1], 10)
		q, _ := new(big.Int).SetString(m[2], 10)
		a, e = wantMake(p, q)
	} else if m := numeralForm.FindString(s); m != "" && m == s {
		a, e = wantNumeral(s)
	} else {
		return api.Num{}, api.ErrForm
	}
	if e == api.OK && minus {
		a.P = -a.P
	}
	return a, e
}

// wantScan returns what Scan has to return.
func wantScan(s string, at int) (api.Num, int, api.Errno) {
	if at < 0 || at > len(s) {
		return api.Num{}, 0, api.ErrRange
	}
	m := numeralForm.FindString(s[at:])
	if m == "" {
		return api.Num{}, 0, api.ErrForm
	}
	a, e := wantNumeral(m)
	if e != api.OK {
		return api.Num{}, 0, e
	}
	return a, at + len(m), api.OK
}

// check compares Parse and Scan of a text with what is wanted.
func check(t *testing.T, s string) {
	t.Helper()
	want, wantE := wantParse(s)
	if got, e := numeral.Parse(s); got != want || e != wantE {
		t.Errorf("Parse(%.60q): %v, error %d; want %v, error %d", s, got, int(e), want, int(wantE))
	}
	for at := -1; at <= len(s)+1; at++ {
		want, wantEnd, wantE := wantScan(s, at)
		if got, end, e := numeral.Scan(s, at); got != want || end != wantEnd || e != wantE {
			t.Errorf("Scan(%.60q, %d): %v, %d, error %d; want %v, %d, error %d", s, at, got, end, int(e), want, wantEnd, int(wantE))
		}
	}
}

// TestAllShortTexts compares Parse and Scan for all texts of a few bytes.
func TestAllShortTexts(t *testing.T) {
	const bytes = "09-./xXaFg \n"
	texts := []string{""}
	for range 5 {
		for _, s := range texts {
			check(t, s)
		}
		var longer []string
		for _, s := range texts {
			for i := range len(bytes) {
				longer = append(longer, s+bytes[i:i+1])
			}
		}
		texts = longer
	}
}

// TestTextsAtTheLimits compares Parse and Scan for texts of numbers near the limits.
func TestTextsAtTheLimits(t *testing.T) {
	integers := []string{
		"0", "1", "2147483646", "2147483647", "2147483648", "4611686018427387903", "4611686018427387904", "4611686018427387905", "9223372036854775807",
		"9223372036854775808", "18446744073709551615", "18446744073709551616", "18446744073709551617", "0000000000000000000000000000001", "461168601842738790400",
	}
	for _, p := range integers {
		check(t, p)
		check(t, "-"+p)
		for _, q := range integers {
			check(t, p+"/"+q)
			check(t, p+"."+q)
		}
		n, _ := new(big.Int).SetString(p, 10)
		check(t, "0x"+n.Text(16))
		check(t, "0X0"+strings.ToUpper(n.Text(16)))
		for places := 1; places < len(p); places++ {
			check(t, p[:len(p)-places]+"."+p[len(p)-places:])
		}
	}
	for places := 1; places <= 11; places++ {
		check(t, "0."+strings.Repeat("9", places))
		check(t, "1."+strings.Repeat("0", places))
		check(t, "3."+strings.Repeat("5", places))
	}
}

// TestAllBytes checks that no other byte is a digit, a blank or a sign.
func TestAllBytes(t *testing.T) {
	for c := range 256 {
		b := string([]byte{byte(c)})
		for _, s := range []string{b, "1" + b, b + "1", "0x" + b, "1." + b, "1/" + b, "1" + b + "2", "0" + b + "1", "0x1" + b, "-" + b} {
			check(t, s)
		}
	}
}

func TestScan(t *testing.T) {
	for i, x := range []struct {
		s    string
		at   int
		want api.Num
		end  int
		e    api.Errno
	}{
		{"x0x1Fg", 1, num(31, 1), 5, api.OK}, {"3..4", 0, num(3, 1), 1, api.OK}, {"3.", 0, num(3, 1), 1, api.OK}, {"1.25x", 0, num(5, 4), 4, api.OK},
		{"1.2.3", 0, num(6, 5), 3, api.OK}, {"0x", 0, num(0, 1), 1, api.OK}, {"0xg", 0, num(0, 1), 1, api.OK}, {"00x1", 0, num(0, 1), 2, api.OK}, {"00x1", 1, num(1, 1), 4, api.OK},
		{"0x1.5", 0, num(1, 1), 3, api.OK}, {"12e5", 0, num(12, 1), 2, api.OK}, {"1/2", 0, num(1, 1), 1, api.OK}, {"a7", 1, num(7, 1), 2, api.OK},
		{"", 0, api.Num{}, 0, api.ErrForm}, {"12", 2, api.Num{}, 0, api.ErrForm}, {"-1", 0, api.Num{}, 0, api.ErrForm}, {" 1", 0, api.Num{}, 0, api.ErrForm}, {".5", 0, api.Num{}, 0, api.ErrForm},
		{"12", -1, api.Num{}, 0, api.ErrRange}, {"12", 3, api.Num{}, 0, api.ErrRange}, {"", 1, api.Num{}, 0, api.ErrRange}, {"", -1, api.Num{}, 0, api.ErrRange},
		{"12", math.MinInt, api.Num{}, 0, api.ErrRange}, {"12", math.MaxInt, api.Num{}, 0, api.ErrRange},
		{"2147483648", 0, api.Num{}, 0, api.ErrRange}, {"x99999999999", 1, api.Num{}, 0, api.ErrRange}, {"1.0000000000", 0, api.Num{}, 0, api.ErrRange}, {"0x80000000 ", 0, api.Num{}, 0, api.ErrRange},
	} {
		if got, end, e := numeral.Scan(x.s, x.at); got != x.want || end != x.end || e != x.e {
			t.Errorf("case %d: Scan(%q, %d): %v, %d, error %d", i, x.s, x.at, got, end, int(e))
		}
	}
}

// TestScanAgreesWithParse is P2.7.
func TestScanAgreesWithParse(t *testing.T) {
	for _, s := range []string{"0", "12", "007", "1.5", "0.000000001", "0x1F", "0X0", zeros + "1", "0x" + zeros + "1", "2147483647", zeros + "1.25"} {
		scanned, end, e := numeral.Scan(s, 0)
		if e != api.OK || end != len(s) {
			t.Errorf("Scan(%.40q): %d, error %d", s, end, int(e))
		}
		if parsed, e := numeral.Parse(s); parsed != scanned || e != api.OK {
			t.Errorf("Parse(%.40q): %v, error %d; Scan: %v", s, parsed, int(e), scanned)
		}
	}
}
