package formatting_test

import (
	"slices"
	"strings"
	"testing"

	"scripting/api"
	"scripting/formatting"
)

// num returns the number p/q as a value, as it is.
func num(p, q int) api.Value { return api.Value{Kind: api.Number, Num: api.Num{P: p, Q: q}} }

// str returns a string as a value.
func str(s string) api.Value { return api.Value{Kind: api.String, Str: s} }

// others returns values that are neither numbers nor strings.
func others() []api.Value {
	return []api.Value{
		{}, {Kind: api.Bool}, {Kind: api.Bool, Ref: 1}, {Kind: api.Table, Ref: 1}, {Kind: api.Function, Ref: 2},
		{Kind: api.Builtin, Str: "1"}, {Kind: api.Thread, Ref: 3}, {Kind: api.Data, Ref: 4}, {Kind: -1}, {Kind: 99, Str: "1", Num: api.Num{P: 1, Q: 1}},
	}
}

// words returns a text as a part of a format.
func words(s string) formatting.Piece { return formatting.Piece{Text: s} }

// TestPieces covers P9.1.
func TestPieces(t *testing.T) {
	for f, want := range map[string][]formatting.Piece{
		"":                     nil,
		"a":                    {words("a")},
		"%%":                   {words("%")},
		"%%%%":                 {words("%%")},
		"a%%%-5s":              {words("a%"), {Verb: 's', Minus: true, Width: 5, Places: -1}},
		"%d":                   {{Verb: 'd', Places: -1}},
		"%d%%d":                {{Verb: 'd', Places: -1}, words("%d")},
		"%x%X%o":               {{Verb: 'x', Places: -1}, {Verb: 'X', Places: -1}, {Verb: 'o', Places: -1}},
		"%f%s%c%q%g":           {{Verb: 'f', Places: -1}, {Verb: 's', Places: -1}, {Verb: 'c', Places: -1}, {Verb: 'q', Places: -1}, {Verb: 'g', Places: -1}},
		"1%d 2%d\n3":           {words("1"), {Verb: 'd', Places: -1}, words(" 2"), {Verb: 'd', Places: -1}, words("\n3")},
		"%-d%0d%+d":            {{Verb: 'd', Minus: true, Places: -1}, {Verb: 'd', Zero: true, Places: -1}, {Verb: 'd', Plus: true, Places: -1}},
		"%+0-+0-0s":            {{Verb: 's', Minus: true, Zero: true, Plus: true, Places: -1}},
		"%1d%9d%10d%99d":       {{Verb: 'd', Width: 1, Places: -1}, {Verb: 'd', Width: 9, Places: -1}, {Verb: 'd', Width: 10, Places: -1}, {Verb: 'd', Width: 99, Places: -1}},
		"%05d%00d":             {{Verb: 'd', Zero: true, Width: 5, Places: -1}, {Verb: 'd', Zero: true, Places: -1}},
		"%.0f%.00f%.5f":        {{Verb: 'f'}, {Verb: 'f'}, {Verb: 'f', Places: 5}},
		"%.09f%.10f%.12f":      {{Verb: 'f', Places: 9}, {Verb: 'f', Places: 10}, {Verb: 'f', Places: 12}},
		"%-07.3sd":             {{Verb: 's', Minus: true, Zero: true, Width: 7, Places: 3}, words("d")},
		"%.1d%.2x%.3c%.4q%.5g": {{Verb: 'd', Places: 1}, {Verb: 'x', Places: 2}, {Verb: 'c', Places: 3}, {Verb: 'q', Places: 4}, {Verb: 'g', Places: 5}},
		"\x00\xff\n%%é":        {words("\x00\xff\n%é")},
	} {
		if l, e := formatting.Pieces(f); !slices.Equal(l, want) || e != api.OK {
			t.Errorf("Pieces(%q): %+v, error %d; want %+v", f, l, int(e), want)
		}
	}
}

// TestNoFormats covers the errors of P9.1 and P9.2: an argument that is wrong or missing comes later.
func TestNoFormats(t *testing.T) {
	for _, f := range []string{
		"%", "a%", "%%%", "%d%", "%-", "%5", "%.", "%.5", "%5.3", "%+0-", "% d", "%5 d", "%#d", "%100d", "%0100d", "%123s", "%5-d", "%5+d", "%1.d", "%.d", "%.-1d",
		"%.+1f", "%.123f", "%.012f", "%.13f", "%.20f", "%.99s", "%..5f", "%.5.5f", "%i", "%D", "%S", "%G", "%F", "%u", "%e", "%a", "%p", "%n", "%\x00", "%\xff", "%\n", "%é", "%-%", "%5%", "%.1%",
		"%d %y", "%y %d", strings.Repeat("%d", 100) + "%",
	} {
		if l, e := formatting.Pieces(f); len(l) != 0 || e != api.ErrForm {
			t.Errorf("Pieces(%q): %+v, error %d", f, l, int(e))
		}
		for _, args := range [][]api.Value{nil, {num(1, 1)}, others()} {
			wantWrong(t, f, args, 0, api.ErrForm)
		}
	}
	for c := range 256 {
		f := "%" + string([]byte{byte(c)})
		l, e := formatting.Pieces(f)
		switch verb := strings.IndexByte("dxXofscqg", byte(c)) >= 0; {
		case verb && (len(l) != 1 || l[0] != formatting.Piece{Verb: byte(c), Places: -1} || e != api.OK),
			c == '%' && (len(l) != 1 || l[0] != words("%") || e != api.OK),
			!verb && c != '%' && (len(l) != 0 || e != api.ErrForm):
			t.Errorf("Pieces(%q): %+v, error %d", f, l, int(e))
		}
	}
}

// wantText checks the result of a format that its arguments fit.
func wantText(t *testing.T, f string, args []api.Value, want string) {
	t.Helper()
	if s, n, e := formatting.Format(f, args); s != want || n != 0 || e != api.OK {
		t.Errorf("Format(%.99q, %.99v): %.200q, %d, error %d; want %.200q", f, args, s, n, int(e), want)
	}
}

// wantWrong checks that a format has an error, with the number of an argument.
func wantWrong(t *testing.T, f string, args []api.Value, wantNumber int, want api.Errno) {
	t.Helper()
	if s, n, e := formatting.Format(f, args); s != "" || n != wantNumber || e != want {
		t.Errorf("Format(%.99q, %.99v): %.99q, %d, error %d; want %d, error %d", f, args, s, n, int(e), wantNumber, int(want))
	}
}

// TestIntegers covers the verbs d, x, X and o of P9.2.
func TestIntegers(t *testing.T) {
	for i, x := range []struct {
		f    string
		a    api.Value
		want string
	}{
		{"%d", num(0, 1), "0"}, {"%d", num(-42, 1), "-42"}, {"%d", num(api.MaxNum, 1), "2147483647"}, {"%d", num(-api.MaxNum, 1), "-2147483647"},
		{"%x", num(0, 1), "0"}, {"%x", num(255, 1), "ff"}, {"%X", num(255, 1), "FF"}, {"%o", num(255, 1), "377"}, {"%x", num(0xabcdef, 1), "abcdef"}, {"%X", num(0xabcdef, 1), "ABCDEF"},
		{"%x", num(api.MaxNum, 1), "7fffffff"}, {"%o", num(api.MaxNum, 1), "17777777777"},
		{"%d", str("12"), "12"}, {"%d", str(" -0x1F\n"), "-31"}, {"%d", str("6/3"), "2"}, {"%d", str("2.0"), "2"}, {"%x", str("31"), "1f"}, {"%X", str("0x1f"), "1F"}, {"%o", str("8"), "10"},
		{"%5d", num(42, 1), "   42"}, {"%5d", num(-42, 1), "  -42"}, {"%-5d|", num(-42, 1), "-42  |"}, {"%05d", num(42, 1), "00042"}, {"%05d", num(-42, 1), "-0042"},
		{"%2d", num(-42, 1), "-42"}, {"%02d", num(-42, 1), "-42"}, {"%03d", num(-42, 1), "-42"}, {"%04d", num(-42, 1), "-042"}, {"%0d", num(7, 1), "7"},
		{"%+d", num(5, 1), "+5"}, {"%+d", num(0, 1), "+0"}, {"%+d", num(-5, 1), "-5"}, {"%+05d", num(5, 1), "+0005"}, {"%+05d", num(-5, 1), "-0005"}, {"%+5d", num(5, 1), "   +5"}, {"%+-5d|", num(5, 1), "+5   |"},
		{"%-05d|", num(5, 1), "5    |"}, {"%0-5d|", num(-5, 1), "-5   |"}, {"%+-05d|", num(5, 1), "+5   |"},
		{"%.5d", num(5, 1), "5"}, {"%5.3d", num(5, 1), "    5"}, {"%.0d", num(0, 1), "0"}, {"%.1x", num(255, 1), "ff"},
		{"%+x", num(255, 1), "ff"}, {"%+X", num(255, 1), "FF"}, {"%+o", num(8, 1), "10"}, {"%05x", num(255, 1), "000ff"}, {"%05X", num(255, 1), "000FF"}, {"%05o", num(8, 1), "00010"}, {"%+05x", num(255, 1), "000ff"},
		{"%5x", num(255, 1), "   ff"}, {"%-5X|", num(255, 1), "FF   |"}, {"%-05o|", num(8, 1), "10   |"},
		{"%99d", num(1, 1), strings.Repeat(" ", 98) + "1"}, {"%099d", num(-1, 1), "-" + strings.Repeat("0", 97) + "1"}, {"%-99d", num(1, 1), "1" + strings.Repeat(" ", 98)},
	} {
		if s, n, e := formatting.Format(x.f, []api.Value{x.a}); s != x.want || n != 0 || e != api.OK {
			t.Errorf("case %d, %s: %q, %d, error %d; want %q", i, x.f, s, n, int(e), x.want)
		}
	}
	for _, a := range []api.Value{num(1, 2), num(-1, 3), str("1/2"), str("1.5"), str("x"), str("")} {
		for _, f := range []string{"%d", "%x", "%X", "%o", "%c"} {
			wantWrong(t, f, []api.Value{a}, 1, api.ErrType)
		}
	}
	for _, a := range []api.Value{num(-1, 1), num(-api.MaxNum, 1), str("-1"), str("-0x10")} {
		for _, f := range []string{"%x", "%X", "%o", "%c"} {
			wantWrong(t, f, []api.Value{a}, 1, api.ErrType)
		}
	}
}

// TestNumbers covers the verbs f and g of P9.2.
func TestNumbers(t *testing.T) {
	for i, x := range []struct {
		f    string
		a    api.Value
		want string
	}{
		{"%f", num(1, 3), "0.333333"}, {"%f", num(-2, 3), "-0.666667"}, {"%f", num(7, 1), "7.000000"}, {"%.2f", num(1, 3), "0.33"}, {"%.0f", num(5, 2), "2"}, {"%.0f", num(7, 2), "4"}, {"%.1f", num(1, 20), "0.0"},
		{"%.12f", num(1, 3), "0.333333333333"}, {"%.12f", num(api.MaxNum, 1), "2147483647.000000000000"}, {"%.6f", str("1/3"), "0.333333"}, {"%f", str(" 0.5 "), "0.500000"},
		{"%8.2f", num(-1, 3), "   -0.33"}, {"%08.2f", num(-1, 3), "-0000.33"}, {"%-8.2f|", num(-1, 3), "-0.33   |"}, {"%+.1f", num(1, 2), "+0.5"}, {"%+08.2f", num(1, 3), "+0000.33"}, {"%+08.2f", num(-1, 3), "-0000.33"},
		{"%-08.2f|", num(1, 3), "0.33    |"}, {"%+.0f", num(-1, 3), "+0"}, {"%+05.0f", num(-1, 3), "+0000"}, {"%05.0f", num(-1, 3), "00000"}, {"%4.2f", num(1, 3), "0.33"}, {"%+5.2f", num(1, 3), "+0.33"},
		{"%g", num(1, 3), "1/3"}, {"%g", num(-7, 3), "-7/3"}, {"%g", num(4, 1), "4"}, {"%g", str("0.5"), "1/2"}, {"%g", str("6/4"), "3/2"}, {"%+g", num(1, 3), "+1/3"}, {"%+g", num(-1, 3), "-1/3"}, {"%+g", num(0, 1), "+0"},
		{"%6g", num(1, 3), "   1/3"}, {"%-6g|", num(1, 3), "1/3   |"}, {"%06g", num(1, 3), "   1/3"}, {"%06g", num(-1, 3), "  -1/3"}, {"%+06g", num(1, 3), "  +1/3"}, {"%-06g|", num(1, 3), "1/3   |"}, {"%.1g", num(1, 3), "1/3"},
	} {
		if s, n, e := formatting.Format(x.f, []api.Value{x.a}); s != x.want || n != 0 || e != api.OK {
			t.Errorf("case %d, %s: %q, %d, error %d; want %q", i, x.f, s, n, int(e), x.want)
		}
	}
}

// TestStrings covers the verbs s, c and q of P9.2.
func TestStrings(t *testing.T) {
	for i, x := range []struct {
		f    string
		a    api.Value
		want string
	}{
		{"%s", str(""), ""}, {"%s", str("abc"), "abc"}, {"%s", str("a\x00\xff\n%d"), "a\x00\xff\n%d"}, {"%s", str(" 1 "), " 1 "}, {"%s", num(1, 3), "1/3"}, {"%s", num(-5, 1), "-5"},
		{"%5s", str("ab"), "   ab"}, {"%-5s|", str("ab"), "ab   |"}, {"%05s", str("ab"), "   ab"}, {"%05s", str("-1"), "   -1"}, {"%05s", num(-1, 1), "   -1"}, {"%+s", num(1, 1), "1"}, {"%+s", str("1"), "1"}, {"%1s", str("ab"), "ab"},
		{"%.2s", str("abcd"), "ab"}, {"%.4s", str("abcd"), "abcd"}, {"%.3s", str("abcd"), "abc"}, {"%.5s", str("abcd"), "abcd"}, {"%.0s", str("abcd"), ""}, {"%.12s", str("0123456789abcdef"), "0123456789ab"}, {"%.1s", str("é"), "\xc3"},
		{"%.1s", num(1, 3), "1"}, {"%.2s", num(-1, 3), "-1"}, {"%5.2s", str("abcd"), "   ab"}, {"%-5.2s|", str("abcd"), "ab   |"}, {"%3.0s", str("abcd"), "   "},
		{"%c", num(65, 1), "A"}, {"%c", num(0, 1), "\x00"}, {"%c", num(255, 1), "\xff"}, {"%c", num(128, 1), "\x80"}, {"%c", str("0x41"), "A"}, {"%c", num(10, 1), "\n"},
		{"%3c", num(65, 1), "  A"}, {"%-3c|", num(65, 1), "A  |"}, {"%03c", num(65, 1), "  A"}, {"%03c", num('-', 1), "  -"}, {"%+c", num(65, 1), "A"}, {"%.0c", num(65, 1), "A"},
		{"%q", str(""), `""`}, {"%q", str("a\n\xff"), `"a\n\255"`}, {"%q", str("\"'\\\t\x01~\x7f"), `"\"'\\\t\001~\127"`}, {"%q", str("1"), `"1"`}, {"%6q", str("ab"), `  "ab"`}, {"%-6q|", str("ab"), `"ab"  |`},
		{"%06q", str("ab"), `  "ab"`}, {"%+q", str("ab"), `"ab"`}, {"%.1q", str("abc"), `"abc"`},
	} {
		if s, n, e := formatting.Format(x.f, []api.Value{x.a}); s != x.want || n != 0 || e != api.OK {
			t.Errorf("case %d, %s: %q, %d, error %d; want %q", i, x.f, s, n, int(e), x.want)
		}
	}
	for _, a := range []api.Value{num(256, 1), num(-1, 1), num(api.MaxNum, 1), str("256")} {
		wantWrong(t, "%c", []api.Value{a}, 1, api.ErrType)
	}
	for _, a := range []api.Value{num(1, 1), num(1, 2)} {
		wantWrong(t, "%q", []api.Value{a}, 1, api.ErrType)
	}
}

// TestWrongArguments covers the errors ErrEmpty and ErrType of P9.2, and their order.
func TestWrongArguments(t *testing.T) {
	one, half, word := num(1, 1), str("1/2"), str("word")
	verbs := []string{"%d", "%x", "%X", "%o", "%f", "%s", "%c", "%q", "%g"}
	for _, f := range verbs {
		for _, a := range append(others(), num(0, 0), num(2, 4), num(1, -1), num(api.MaxNum+1, 1)) {
			wantWrong(t, f, []api.Value{a}, 1, api.ErrType)
			wantWrong(t, "%d"+f, []api.Value{one, a, {}}, 2, api.ErrType)
		}
		wantWrong(t, f, nil, 1, api.ErrEmpty)
		wantWrong(t, "%s%s"+f, []api.Value{one, word}, 3, api.ErrEmpty)
	}
	for _, f := range verbs[:5] {
		for _, a := range []api.Value{word, str(""), str("1."), str("1/0"), str("+1"), str("0.0000000001"), str("2147483648")} {
			wantWrong(t, f, []api.Value{a}, 1, api.ErrType)
		}
	}
	wantWrong(t, "%d%d", []api.Value{one, half}, 2, api.ErrType)
	wantWrong(t, "%d%d%d", []api.Value{half, one}, 1, api.ErrType)
	wantWrong(t, "%d%d%d", []api.Value{one, half}, 2, api.ErrType)
	wantWrong(t, "a%%b%d%%%d", []api.Value{one}, 2, api.ErrEmpty)
	wantText(t, "%s", []api.Value{word, {}, one, {Kind: 99}}, "word")
	wantText(t, "", []api.Value{{}, half}, "")
	wantText(t, "%%", []api.Value{{}}, "%")
	wantText(t, "%05d|%.2f|%-4s|", []api.Value{num(-42, 1), num(1, 3), str("ab")}, "-0042|0.33|ab  |")
}

// TestLongResults covers ErrLong of P9.2, which comes after the errors of arguments.
func TestLongResults(t *testing.T) {
	full, more := strings.Repeat("x", api.MaxString), strings.Repeat("x", api.MaxString+1)
	wantText(t, full, nil, full)
	wantWrong(t, more, nil, 0, api.ErrLong)
	wantText(t, "%s", []api.Value{str(full)}, full)
	wantWrong(t, "%s", []api.Value{str(more)}, 0, api.ErrLong)
	wantText(t, "%.12s", []api.Value{str(more)}, more[:12])
	wantWrong(t, "%sy", []api.Value{str(full)}, 0, api.ErrLong)
	wantWrong(t, "y%s", []api.Value{str(full)}, 0, api.ErrLong)
	wantText(t, "y%s%s", []api.Value{str(full[1:]), str("")}, "y"+full[1:])
	wantText(t, "%q", []api.Value{str(full[2:])}, `"`+full[2:]+`"`)
	wantWrong(t, "%q", []api.Value{str(full[1:])}, 0, api.ErrLong)
	wantWrong(t, full+"%d", []api.Value{num(1, 1)}, 0, api.ErrLong)
	wantWrong(t, more+"%d", nil, 1, api.ErrEmpty)
	wantWrong(t, more+"%d", []api.Value{{}}, 1, api.ErrType)
	wantWrong(t, "%s%d", []api.Value{str(more), {}}, 2, api.ErrType)
	wantWrong(t, "%s%s%d", []api.Value{str(more), str(more)}, 3, api.ErrEmpty)
	wantWrong(t, more+"%", nil, 0, api.ErrForm)
	wantText(t, strings.Repeat("%%", api.MaxString), nil, strings.Repeat("%", api.MaxString))
	wantWrong(t, strings.Repeat("%%", api.MaxString+1), nil, 0, api.ErrLong)
	wide := make([]api.Value, 42)
	for i := range wide {
		wide[i] = str("1")
	}
	wantText(t, strings.Repeat("%99s", 41)+"%37s", wide, strings.Repeat(strings.Repeat(" ", 98)+"1", 41)+strings.Repeat(" ", 36)+"1")
	wantWrong(t, strings.Repeat("%99s", 41)+"%38s", wide, 0, api.ErrLong)
	wantText(t, strings.Repeat("%099d", 41)+"%037d", wide, strings.Repeat(strings.Repeat("0", 98)+"1", 41)+strings.Repeat("0", 36)+"1")
	wantWrong(t, strings.Repeat("%099d", 41)+"%038d", wide, 0, api.ErrLong)
}

// TestPad covers P9.3.
func TestPad(t *testing.T) {
	long := strings.Repeat("x", 98)
	for i, x := range []struct {
		s     string
		width int
		minus bool
		want  string
	}{
		{"ab", 4, false, "  ab"}, {"ab", 4, true, "ab  "}, {"ab", 2, false, "ab"}, {"ab", 3, true, "ab "}, {"ab", 1, false, "ab"}, {"ab", 0, true, "ab"}, {"ab", -1, false, "ab"}, {"ab", -1 << 63, true, "ab"},
		{"", 0, false, ""}, {"", 1, false, " "}, {"", 99, true, strings.Repeat(" ", 99)}, {"", 100, false, strings.Repeat(" ", 99)}, {"", 1<<63 - 1, true, strings.Repeat(" ", 99)},
		{long, 99, false, " " + long}, {long, 100, true, long + " "}, {long + "y", 1000, false, long + "y"}, {long + "yz", 1000, true, long + "yz"},
		{"é", 3, false, " é"}, {"\xff\n", 3, true, "\xff\n "}, {"-1", 4, false, "  -1"},
	} {
		if s := formatting.Pad(x.s, x.width, x.minus); s != x.want {
			t.Errorf("case %d: %q, want %q", i, s, x.want)
		}
	}
}
