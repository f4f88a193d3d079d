package value_test

import (
	"math"
	"strings"
	"testing"

	"scripting/api"
	"scripting/value"
)

// num returns a number as a value.
func num(p, q int) api.Value { return api.Value{Kind: api.Number, Num: api.Num{P: p, Q: q}} }

// str returns a string as a value.
func str(s string) api.Value { return api.Value{Kind: api.String, Str: s} }

// object returns a value with an identity.
func object(kind, ref int) api.Value { return api.Value{Kind: kind, Ref: ref} }

// host returns a function of the host as a value.
func host(name string) api.Value { return api.Value{Kind: api.Builtin, Str: name} }

// letters returns a string of so many bytes.
func letters(n int) string { return strings.Repeat("x", n) }

// otherKinds returns numbers that are no kinds of values.
func otherKinds() []int { return []int{-1, api.Data + 1, 99, math.MinInt, math.MaxInt} }

// TestValid covers P11.1 for values that are valid.
func TestValid(t *testing.T) {
	for i, v := range []api.Value{
		{}, {Kind: api.Bool}, {Kind: api.Bool, Ref: 1},
		num(0, 1), num(1, 1), num(-7, 3), num(api.MaxNum, 1), num(-api.MaxNum, 1), num(1, api.MaxNum), num(api.MaxNum, api.MaxNum-1),
		str(""), str("a"), str("\x00\xff"), str(letters(api.MaxString)),
		object(api.Table, 1), object(api.Function, 1), object(api.Thread, 1), object(api.Data, 1), object(api.Table, math.MaxInt), object(api.Data, 1<<40),
		host("p"), host("string.len"), host(letters(api.MaxString)),
	} {
		if !value.Valid(v) {
			t.Errorf("case %d: %.99v is not valid", i, v)
		}
	}
}

// TestNotValid covers P11.1 for values that are not valid.
func TestNotValid(t *testing.T) {
	for i, v := range []api.Value{
		{Ref: 1}, {Str: "a"}, {Num: api.Num{Q: 1}}, {Num: api.Num{P: 1}},
		{Kind: api.Bool, Ref: 2}, {Kind: api.Bool, Ref: -1}, {Kind: api.Bool, Ref: math.MaxInt}, {Kind: api.Bool, Str: "a"}, {Kind: api.Bool, Ref: 1, Num: api.Num{P: 1, Q: 1}},
		num(0, 0), num(1, 0), num(0, 2), num(2, 2), num(4, 6), num(1, -1), num(api.MaxNum+1, 1), num(-api.MaxNum-1, 1), num(1, api.MaxNum+1), num(math.MinInt, 1), num(1, math.MinInt),
		{Kind: api.Number, Num: api.Num{P: 1, Q: 1}, Str: "1"}, {Kind: api.Number, Num: api.Num{P: 1, Q: 1}, Ref: 1},
		str(letters(api.MaxString + 1)), {Kind: api.String, Str: "a", Ref: 1}, {Kind: api.String, Num: api.Num{Q: 1}},
		host(""), host(letters(api.MaxString + 1)), {Kind: api.Builtin, Str: "a", Ref: 1}, {Kind: api.Builtin, Ref: 1}, {Kind: api.Builtin, Str: "a", Num: api.Num{P: 1}},
	} {
		if value.Valid(v) {
			t.Errorf("case %d: %.99v is valid", i, v)
		}
	}
	for _, kind := range []int{api.Table, api.Function, api.Thread, api.Data} {
		for _, v := range []api.Value{object(kind, 0), object(kind, -1), object(kind, math.MinInt), {Kind: kind, Ref: 1, Str: "a"}, {Kind: kind, Ref: 1, Num: api.Num{P: 1, Q: 1}}} {
			if value.Valid(v) {
				t.Errorf("%v is valid", v)
			}
		}
	}
	for _, kind := range otherKinds() {
		for _, v := range []api.Value{{Kind: kind}, object(kind, 1), {Kind: kind, Str: "a"}, {Kind: kind, Num: api.Num{P: 1, Q: 1}}} {
			if value.Valid(v) {
				t.Errorf("%v is valid", v)
			}
		}
	}
}

// TestTrue covers True of P11.2: only the kind and the Ref of a Bool matter, also of values that are not valid.
func TestTrue(t *testing.T) {
	for _, v := range []api.Value{{}, {Ref: 1}, {Str: "a"}, {Num: api.Num{P: 1, Q: 1}}, {Kind: api.Bool}, {Kind: api.Bool, Str: "a"}, {Kind: api.Bool, Num: api.Num{P: 1, Q: 1}}} {
		if value.True(v) {
			t.Errorf("True(%v)", v)
		}
	}
	for _, v := range []api.Value{
		{Kind: api.Bool, Ref: 1}, {Kind: api.Bool, Ref: 2}, {Kind: api.Bool, Ref: -1}, num(0, 1), num(1, 1), {Kind: api.Number}, str(""), str("false"),
		object(api.Table, 1), object(api.Table, 0), object(api.Function, 1), host("p"), host(""), object(api.Thread, 1), object(api.Data, 1),
	} {
		if !value.True(v) {
			t.Errorf("not True(%v)", v)
		}
	}
	for _, kind := range otherKinds() {
		if !value.True(api.Value{Kind: kind}) {
			t.Errorf("not True of the kind %d", kind)
		}
	}
}

// TestSame covers Same of P11.2: two of the values are the same only if they are one.
func TestSame(t *testing.T) {
	list := []api.Value{
		{}, {Ref: 1}, {Str: "a"}, {Num: api.Num{P: 1}}, {Num: api.Num{Q: 1}}, {Kind: api.Bool}, {Kind: api.Bool, Ref: 1}, {Kind: api.Bool, Ref: 2},
		num(1, 1), num(2, 2), num(1, 2), num(-1, 2), str(""), str("1"), str("a"), str("a\x00"), host("a"), host("b"), host(""),
		object(api.Table, 1), object(api.Table, 2), object(api.Function, 1), object(api.Thread, 1), object(api.Data, 1), {Kind: api.Table, Ref: 1, Str: "a"}, {Kind: 99}, {Kind: -1},
	}
	for i, a := range list {
		for j, b := range list {
			if value.Same(a, b) != (i == j) {
				t.Errorf("Same(%v, %v): %v", a, b, i != j)
			}
		}
	}
	if !value.Same(str(letters(5)), str("xxxxx")) {
		t.Errorf("equal strings are not the same")
	}
}

// TestType covers P11.3.
func TestType(t *testing.T) {
	for kind, want := range []string{
		api.Nil: "nil", api.Bool: "boolean", api.Number: "number", api.String: "string", api.Table: "table",
		api.Function: "function", api.Builtin: "function", api.Thread: "thread", api.Data: "userdata",
	} {
		for _, v := range []api.Value{{Kind: kind}, object(kind, 1), {Kind: kind, Str: "a", Ref: -1, Num: api.Num{P: 2, Q: 2}}} {
			if s := value.Type(v); s != want {
				t.Errorf("Type(%v): %q; want %q", v, s, want)
			}
		}
	}
	for _, kind := range otherKinds() {
		if s := value.Type(api.Value{Kind: kind, Str: "a", Ref: 1}); s != "" {
			t.Errorf("Type of the kind %d: %q", kind, s)
		}
	}
}

// TestText covers P11.4.
func TestText(t *testing.T) {
	for i, x := range []struct {
		v    api.Value
		want string
	}{
		{api.Value{}, "nil"}, {api.Value{Ref: 1, Str: "a"}, "nil"},
		{object(api.Bool, 0), "false"}, {object(api.Bool, 1), "true"}, {object(api.Bool, 2), "true"}, {object(api.Bool, -1), "true"},
		{num(0, 1), "0"}, {num(-7, 3), "-7/3"}, {num(4, 1), "4"}, {num(1, api.MaxNum), "1/2147483647"}, {num(-api.MaxNum, 1), "-2147483647"},
		{num(0, 0), "nan"}, {num(2, 2), "nan"}, {num(api.MaxNum+1, 1), "nan"},
		{str(""), ""}, {str("a\x00\n\xff"), "a\x00\n\xff"}, {str(letters(api.MaxString + 1)), letters(api.MaxString + 1)},
		{object(api.Table, 5), "table: 5"}, {object(api.Function, 12), "function: 12"}, {object(api.Thread, 1), "thread: 1"}, {object(api.Data, 65536), "userdata: 65536"},
		{object(api.Table, 0), "table: 0"}, {object(api.Data, -3), "userdata: -3"}, {object(api.Thread, math.MinInt), "thread: -9223372036854775808"}, {object(api.Function, math.MaxInt), "function: 9223372036854775807"},
		{host("string.len"), "builtin: string.len"}, {host("print"), "builtin: print"}, {host(""), "builtin: "},
		{api.Value{Kind: api.Builtin, Str: "p", Ref: 4}, "builtin: p"}, {api.Value{Kind: api.Table, Str: "p", Ref: 4}, "table: 4"},
	} {
		if s := value.Text(x.v); s != x.want {
			t.Errorf("case %d: %.99q; want %.99q", i, s, x.want)
		}
	}
	for _, kind := range otherKinds() {
		if s := value.Text(api.Value{Kind: kind, Str: "a", Ref: 1, Num: api.Num{P: 1, Q: 1}}); s != "" {
			t.Errorf("Text of the kind %d: %q", kind, s)
		}
	}
}

// noNumbers returns values that have no number.
func noNumbers() []api.Value {
	list := []api.Value{
		{}, {Num: api.Num{P: 1, Q: 1}}, {Kind: api.Bool}, {Kind: api.Bool, Ref: 1}, {Kind: api.Bool, Num: api.Num{P: 1, Q: 1}},
		num(0, 0), num(2, 2), num(0, 2), num(1, -1), num(api.MaxNum+1, 1), num(1, api.MaxNum+1),
		object(api.Table, 1), object(api.Function, 1), object(api.Thread, 1), object(api.Data, 1), host("1"), {Kind: api.Table, Ref: 1, Str: "1", Num: api.Num{P: 1, Q: 1}},
	}
	for _, kind := range otherKinds() {
		list = append(list, api.Value{Kind: kind, Str: "1", Num: api.Num{P: 1, Q: 1}})
	}
	return list
}

// TestNumber covers Number of P11.5.
func TestNumber(t *testing.T) {
	for i, x := range []struct {
		v    api.Value
		want api.Num
	}{
		{num(0, 1), api.Num{P: 0, Q: 1}}, {num(-7, 3), api.Num{P: -7, Q: 3}}, {num(api.MaxNum, api.MaxNum-1), api.Num{P: api.MaxNum, Q: api.MaxNum - 1}},
		{str(" 0x10 "), api.Num{P: 16, Q: 1}}, {str("12"), api.Num{P: 12, Q: 1}}, {str("-1.25"), api.Num{P: -5, Q: 4}}, {str("\t6/4\r\n"), api.Num{P: 3, Q: 2}}, {str("-0X1f"), api.Num{P: -31, Q: 1}},
		{str("2147483647"), api.Num{P: api.MaxNum, Q: 1}}, {str("00"), api.Num{P: 0, Q: 1}}, {str(strings.Repeat("0", api.MaxString) + "5"), api.Num{P: 5, Q: 1}},
		{api.Value{Kind: api.Number, Num: api.Num{P: 1, Q: 2}, Str: "3", Ref: 1}, api.Num{P: 1, Q: 2}}, {api.Value{Kind: api.String, Str: "3", Num: api.Num{P: 1, Q: 2}}, api.Num{P: 3, Q: 1}},
	} {
		if n, e := value.Number(x.v); n != x.want || e != api.OK {
			t.Errorf("case %d: %v, error %d; want %v", i, n, int(e), x.want)
		}
	}
	wrong := noNumbers()
	for _, s := range []string{"", " ", "x", "1x", "1.", ".5", "1 2", "+1", "- 1", "--1", "1/0", "1/-2", "0x", "0.0000000001", "2147483648", "99999999999999999999", "1/2147483648", "1/2/3", "nan", "1\x00"} {
		wrong = append(wrong, str(s))
	}
	for i, v := range wrong {
		if n, e := value.Number(v); n != (api.Num{}) || e != api.ErrType {
			t.Errorf("wrong case %d, %v: %v, error %d", i, v, n, int(e))
		}
	}
}

// TestStr covers Str of P11.5.
func TestStr(t *testing.T) {
	for i, x := range []struct {
		v    api.Value
		want string
	}{
		{str(""), ""}, {str("a\x00\xff"), "a\x00\xff"}, {str(" 0x10 "), " 0x10 "}, {str(letters(api.MaxString + 1)), letters(api.MaxString + 1)}, {api.Value{Kind: api.String, Str: "a", Num: api.Num{P: 1, Q: 1}}, "a"},
		{num(1, 2), "1/2"}, {num(0, 1), "0"}, {num(-12, 1), "-12"}, {num(-api.MaxNum, api.MaxNum-1), "-2147483647/2147483646"}, {api.Value{Kind: api.Number, Num: api.Num{P: 1, Q: 2}, Str: "a"}, "1/2"},
	} {
		if s, e := value.Str(x.v); s != x.want || e != api.OK {
			t.Errorf("case %d: %.99q, error %d; want %.99q", i, s, int(e), x.want)
		}
	}
	for _, v := range noNumbers() {
		if s, e := value.Str(v); s != "" || e != api.ErrType {
			t.Errorf("Str(%v): %q, error %d", v, s, int(e))
		}
	}
}

// TestLess covers P11.6: each list is in ascending order.
func TestLess(t *testing.T) {
	for _, list := range [][]api.Value{
		{num(-api.MaxNum, 1), num(-api.MaxNum+1, 1), num(-2, 1), num(-3, 2), num(-1, 1), num(-1, 2), num(-1, api.MaxNum), num(0, 1), num(1, api.MaxNum), num(1, api.MaxNum-1),
			num(1, 3), num(1, 2), num(2, 3), num(api.MaxNum-2, api.MaxNum-1), num(api.MaxNum-1, api.MaxNum), num(1, 1), num(api.MaxNum, api.MaxNum-1), num(9, 1), num(10, 1), num(api.MaxNum, 1)},
		{str(""), str("\x00"), str("\x00\x00"), str("10"), str("9"), str("A"), str("Z"), str("a"), str("a\x00"), str("ab"), str("b"), str(letters(api.MaxString)), str(letters(api.MaxString + 1)), str("z"), str("\x80"), str("é"), str("\xff"), str("\xff\xff")},
	} {
		for i, a := range list {
			for j, b := range list {
				if less, e := value.Less(a, b); less != (i < j) || e != api.OK {
					t.Errorf("Less(%.99v, %.99v): %v, error %d", a, b, less, int(e))
				}
			}
		}
	}
}

// TestLessOfOthers covers the error of P11.6: of values that have no order, and of a number with a string.
func TestLessOfOthers(t *testing.T) {
	wantType := func(a, b api.Value) {
		t.Helper()
		if less, e := value.Less(a, b); less || e != api.ErrType {
			t.Errorf("Less(%v, %v): %v, error %d", a, b, less, int(e))
		}
	}
	wantType(str("1"), num(2, 1))
	wantType(num(1, 1), str("2"))
	wantType(str(""), num(0, 0))
	for _, a := range noNumbers() {
		for _, b := range append(noNumbers(), num(1, 1), num(-1, 2), str(""), str("1")) {
			wantType(a, b)
			wantType(b, a)
		}
	}
}

// TestOf covers P11.7 for results that are values.
func TestOf(t *testing.T) {
	if v := value.OfBool(false); v != object(api.Bool, 0) {
		t.Errorf("OfBool(false): %v", v)
	}
	if v := value.OfBool(true); v != object(api.Bool, 1) {
		t.Errorf("OfBool(true): %v", v)
	}
	for _, n := range []int{0, 1, -1, 42, api.MaxNum - 1, api.MaxNum, -api.MaxNum} {
		if v := value.OfInt(n); v != num(n, 1) {
			t.Errorf("OfInt(%d): %v", n, v)
		}
	}
	for _, v := range []api.Value{num(0, 1), num(-1, 2), num(api.MaxNum, 1), num(-api.MaxNum, 1), num(1, api.MaxNum), num(api.MaxNum, api.MaxNum-1)} {
		if got := value.OfNum(v.Num); got != v {
			t.Errorf("OfNum(%v): %v", v.Num, got)
		}
	}
	for _, s := range []string{"", "a", "1", "\x00\xff", letters(api.MaxString), letters(api.MaxString + 1), letters(1 << 20)} {
		if v := value.OfString(s); v != str(s) {
			t.Errorf("OfString(%.99q): %.99v", s, v)
		}
	}
}

// TestOfNothing covers P11.7 for integers and numbers that do not exist.
func TestOfNothing(t *testing.T) {
	for _, n := range []int{api.MaxNum + 1, -api.MaxNum - 1, 1 << 32, 1<<32 + 1, math.MaxInt, math.MinInt} {
		if v := value.OfInt(n); v != (api.Value{}) {
			t.Errorf("OfInt(%d): %v", n, v)
		}
	}
	for _, a := range []api.Num{{}, {P: 1}, {P: 2, Q: 2}, {P: 0, Q: 2}, {P: 1, Q: -1}, {P: -1, Q: -1}, {P: api.MaxNum + 1, Q: 1}, {P: -api.MaxNum - 1, Q: 1}, {P: 1, Q: api.MaxNum + 1}, {P: math.MinInt, Q: math.MinInt}} {
		if v := value.OfNum(a); v != (api.Value{}) {
			t.Errorf("OfNum(%v): %v", a, v)
		}
	}
}
