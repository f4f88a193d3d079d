package pattern_test

import (
	"math"
	"strconv"
	"strings"
	"testing"

	"scripting/api"
	"scripting/pattern"
)

// match returns a match with captures that are given as pairs of indices.
func match(from, to int, l ...int) api.Match {
	m := api.Match{From: from, To: to}
	for i := 0; i < len(l); i += 2 {
		m.Caps = append(m.Caps, api.Cap{From: l[i], To: l[i+1]})
	}
	return m
}

// same reports whether two matches are equal.
func same(a, b api.Match) bool {
	if a.From != b.From || a.To != b.To || len(a.Caps) != len(b.Caps) {
		return false
	}
	for i := range a.Caps {
		if a.Caps[i] != b.Caps[i] {
			return false
		}
	}
	return true
}

// sameAll reports whether two lists of matches are equal.
func sameAll(a, b []api.Match) bool {
	if len(a) != len(b) {
		return false
	}
	for i := range a {
		if !same(a[i], b[i]) {
			return false
		}
	}
	return true
}

func TestCheck(t *testing.T) {
	for _, p := range []string{
		"", "^", "$", "^$", "$$", "^^", "a$b", "a^b", "^^*", "]", "a]", "*", "**", "***", "a**", "+-?", "(*a)", "(a)*", "()+", "%ba*?", "a?+", "--", "-", "^*$", "-$",
		"()", "(())", "(a)%1", "(a)(b)%2%1", "((a)b)%1%2", "((a)%2)", "()(a)%2", "(a)()%1", "(a)%1*", "(^$)", "($a)",
		"%b()", "%bxx", "%b%%", "%b$$", "%b]]$", "%bb(", "%b()*", "%f[a]", "%f[^%s]", "%f[]]", "%f[a]+", "%f[a]$",
		"%a%d%l%u%w%x%s%p%c", "%A%D%L%U%W%X%S%P%C", "%a*%D-", "%.%%%(%)%[%]%$%^%*%-%_%\x00%\xff% ", "%$", "a%$", "%^",
		"[a]", "[]]", "[^]]", "[^^]", "[^a]", "[]a]", "[a-z]", "[a-]", "[-a]", "[-]", "[--]", "[---]", "[]-a]", "[^]-a]", "[]-]", "[z-a]", "[%]]", "[%]-a]", "[%a-z]", "[a-%]", "[+--]",
		"[%w_]", "[%%]", "[%-]", "[.*+?$()]", "[[]", "[[]]", "[a]*", "[a]?[b]+[c]-", "[$]", "[a^]", "[\x00-\xff]", "]*", "$*", "^$*",
	} {
		if e := pattern.Check(p); e != api.OK {
			t.Errorf("Check(%q): error %d", p, int(e))
		}
	}
	for _, p := range []string{
		"%", "a%", "^%", "%%%", "%q", "%z", "%Z", "%B", "%F", "%b", "%b(", "a%bx", "%f", "%fa", "%f%a", "%f[", "%f[a", "%f[^]", "%f]", "%f[%z]",
		"%0", "%1", "%9", "()%1", "(a%1)", "(%1)", "(a)%2", "(a)(%2)", "()(a)%1", "(a)()%2", "%1(a)", "(a)%0",
		"[", "[]", "[^", "[^]", "[a", "[a-", "[a-z", "[a-]]]%", "[%", "[%]", "[%a", "[%q]", "[%b]", "[%f]", "[%1]", "[%0]", "[%Z]", "[]-a", "[a-%%]", "[^%]",
		"(", "(a", "((a)", ")", "a)", "(a))", "())", "($", "(()", "()(", "a(b)c(d", "%(a)", "^)", "($)(",
	} {
		if e := pattern.Check(p); e != api.ErrForm {
			t.Errorf("Check(%q): error %d", p, int(e))
		}
	}
}

func TestCheckOfManyCaptures(t *testing.T) {
	places, groups, nested := strings.Repeat("()", 16), strings.Repeat("(a)", 16), strings.Repeat("(", 16)
	for p, want := range map[string]api.Errno{
		places: api.OK, groups: api.OK, nested + strings.Repeat(")", 16): api.OK, places + "%(": api.OK, places + "[(]": api.OK, groups + "%9": api.OK, places + "%b()": api.OK,
		places + "()": api.ErrLimit, groups + "()": api.ErrLimit, groups + "(a)": api.ErrLimit, nested + "(": api.ErrLimit, nested: api.ErrForm,
		// The first error from left to right counts.
		places + "(%": api.ErrLimit, "%q" + places + "()": api.ErrForm, places + "%q()": api.ErrForm, places + ")()": api.ErrForm, nested + "()": api.ErrLimit, places + "(%1": api.ErrLimit,
		"(" + places: api.ErrLimit, places + "[(": api.ErrForm, places + "%": api.ErrForm,
	} {
		if e := pattern.Check(p); e != want {
			t.Errorf("Check(%q): error %d, want %d", p, int(e), int(want))
		}
	}
	p := strings.Repeat("(a)", 15) + "()" + strings.Repeat("%9", 2)
	want := match(0, 17)
	for i := range 15 {
		want.Caps = append(want.Caps, api.Cap{From: i, To: i + 1})
	}
	want.Caps = append(want.Caps, api.Cap{From: 15, To: -1})
	if m, ok, e := pattern.At(strings.Repeat("a", 20), p, 0); !ok || e != api.OK || !same(m, want) {
		t.Errorf("At: %v, %v, error %d", m, ok, int(e))
	}
}

// TestClasses compares the classes with lists of their bytes.
func TestClasses(t *testing.T) {
	for c := range 256 {
		b := string([]byte{byte(c)})
		for _, letter := range "adluwxspc" {
			in := strings.Contains(listed(byte(letter)), b)
			for p, want := range map[string]bool{"%" + string(letter): in, "%" + string(letter-32): !in, "[%" + string(letter) + "]": in, "[^%" + string(letter) + "]": !in, "[%" + string(letter-32) + "]": !in} {
				if _, ok, e := pattern.At(b, p, 0); ok != want || e != api.OK {
					t.Errorf("At(%q, %q): %v, error %d", b, p, ok, int(e))
				}
			}
		}
		if _, ok, _ := pattern.At(b, ".", 0); !ok {
			t.Errorf("At(%q, .) is false", b)
		}
		if e := pattern.Check("(a)%" + b + "xy"); (e == api.OK) != (wantPair(byte(c)) || b == "b" || b == "1") {
			t.Errorf("Check of %% and %q: error %d", b, int(e))
		}
	}
}

// TestSets compares sets with the bytes that they stand for, for all bytes.
func TestSets(t *testing.T) {
	for p, want := range map[string]string{
		"[]]": "]", "[]a]": "]a", "[a-e]": "abcde", "[e-a]": "", "[a-a]": "a", "[a-]": "a-", "[-a]": "-a", "[--/]": "-./", "[+--]": "+,-", "[---]": "-", "[--]": "-", "[-]": "-",
		"[]-a]": "]^_`a", "[]-]": "]-", "[%]-a]": "]-a", "[%a-]": lower + upper + "-", "[%d-f]": digits + "-f", "[!-%]": "!\"#$%", "[a-%]": "", "[0-9a]": digits + "a", "[a-c-e]": "abc-e",
		"[.]": ".", "[*+?]": "*+?", "[$]": "$", "[a^]": "a^", "[[]": "[", "[(]": "(", "[%%]": "%", "[%^]": "^", "[%-x]": "-x", "[ab%d]": "ab" + digits, "[%.%-]": ".-", "[^%D]": digits, "[^%s%S]": "",
		"[\xfe-\xff]": "\xfe\xff", "[\x00]": "\x00", "[%\x80]": "\x80", "[a-bd-e]": "abde", "[^\x01-\xff]": "\x00",
	} {
		for c := range 256 {
			b := string([]byte{byte(c)})
			if _, ok, e := pattern.At(b, p, 0); ok != strings.Contains(want, b) || e != api.OK {
				t.Errorf("At(%q, %q): %v, error %d", b, p, ok, int(e))
			}
			if _, ok, e := pattern.At(b, "[^"+strings.TrimPrefix(p[1:], "^"), 0); p[1] != '^' && (ok == strings.Contains(want, b) || e != api.OK) {
				t.Errorf("At(%q, the complement of %q): %v, error %d", b, p, ok, int(e))
			}
		}
	}
	for _, s := range []string{"^", "]", "a", "b"} {
		for p, want := range map[string]string{"[^]]": "]", "[^^]": "^", "[^]a]": "]a", "[^]-a]": "]^a", "[^a^]": "a^"} {
			if _, ok, e := pattern.At(s, p, 0); ok == strings.Contains(want, s) || e != api.OK {
				t.Errorf("At(%q, %q): %v, error %d", s, p, ok, int(e))
			}
		}
	}
}

func TestAt(t *testing.T) {
	for i, x := range []struct {
		s, p string
		at   int
		ok   bool
		want api.Match
	}{
		{"key=val", "(%w+)=(%w*)", 0, true, match(0, 7, 0, 3, 4, 7)},
		{"xa", "^a", 1, true, match(1, 2)},
		{"xa", "^a", 0, false, api.Match{}},
		{"xa", "a", 0, false, api.Match{}},
		{"ab", "", 2, true, match(2, 2)},
		{"ab", "$", 2, true, match(2, 2)},
		{"ab", "$", 1, false, api.Match{}},
		{"a$b", "a$b", 0, true, match(0, 3)},
		{"a$", "a$$", 0, true, match(0, 2)},
		{"a$", "a%$", 0, true, match(0, 2)},
		{"ab", "a%$", 0, false, api.Match{}},
		{"^^", "^^", 0, true, match(0, 1)},
		{"a^", "a^", 0, true, match(0, 2)},
		{"a***", "a**", 0, true, match(0, 2)},
		{"***", "**", 0, true, match(0, 3)},
		{"?", "^?", 0, true, match(0, 1)},
		{"a-", "(a)-", 0, true, match(0, 2, 0, 1)},
		{"$$$", "$*", 0, true, match(0, 3)},
		{"]]", "]+", 0, true, match(0, 2)},
		{"", ".", 0, false, api.Match{}},
		{"\n", ".", 0, true, match(0, 1)},
		{"aaa", "a?a", 0, true, match(0, 2)},
		{"a", "a?a", 0, true, match(0, 1)},
		{"aaab", "a*ab", 0, true, match(0, 4)},
		{"aaab", "a+a+ab", 0, true, match(0, 4)},
		{"ab", "a+ab", 0, false, api.Match{}},
		{"b", "a+", 0, false, api.Match{}},
		{"b", "a*", 0, true, match(0, 0)},
		{"aaa", "a-", 0, true, match(0, 0)},
		{"aaa", "a-$", 0, true, match(0, 3)},
		{"aabaab", "(.-)b", 0, true, match(0, 3, 0, 2)},
		{"aabaab", "(.*)b", 0, true, match(0, 6, 0, 5)},
		{"abc", "(a(b)(c))", 0, true, match(0, 3, 0, 3, 1, 2, 2, 3)},
		{"abc", "()a()(b)()", 0, true, match(0, 2, 0, -1, 1, -1, 1, 2, 2, -1)},
		{"aba", "(a*)(a?)b%2", 0, true, match(0, 2, 0, 1, 1, 1)},
		{"abab", "(ab)%1", 0, true, match(0, 4, 0, 2)},
		{"abaa", "(ab)%1", 0, false, api.Match{}},
		{"aaaa", "(a+)%1$", 0, true, match(0, 4, 0, 2)},
		{"aab", "(a*)%1b", 0, true, match(0, 3, 0, 1)},
		{"'x\"'", "(['\"]).-%1", 0, true, match(0, 4, 0, 1)},
		{"((a)b)c", "%b()", 0, true, match(0, 6)},
		{"((a)b", "%b()", 0, false, api.Match{}},
		{")(", "%b()", 0, false, api.Match{}},
		{"", "%b()", 0, false, api.Match{}},
		{"xaxa", "%bxx", 0, true, match(0, 3)},
		{"xa", "%bxx", 0, false, api.Match{}},
		{"(a)(b)", "%b()%b()", 0, true, match(0, 6)},
		{"a%b%", "%ba%b%%", 0, true, match(0, 4)},
		{"THE end", "%f[%a]%a+%f[%A]", 4, true, match(4, 7)},
		{"THE end", "%f[%a]%a+%f[%A]", 1, false, api.Match{}},
		{"ab", "%f[\x00]", 2, true, match(2, 2)},
		{"ab", "%f[\x00]", 0, false, api.Match{}},
		{"", "%f[\x00]", 0, false, api.Match{}},
		{"a\x00", "%f[%c]", 1, true, match(1, 1)},
		{"a\x00", "%f[%c]", 2, false, api.Match{}},
		{"ab", "%f[^%c]", 0, true, match(0, 0)},
		{"ab", "%f[a-z]*", 0, false, api.Match{}},
		{"*", "%f[*]*", 0, true, match(0, 1)},
		{"a**", "%ba**", 0, true, match(0, 3)},
	} {
		if m, ok, e := pattern.At(x.s, x.p, x.at); ok != x.ok || e != api.OK || !same(m, x.want) {
			t.Errorf("case %d: At(%q, %q, %d): %v, %v, error %d", i, x.s, x.p, x.at, m, ok, int(e))
		}
	}
}

func TestFind(t *testing.T) {
	for i, x := range []struct {
		s, p string
		from int
		ok   bool
		want api.Match
	}{
		{"a1b22", "%d+", 2, true, match(3, 5)},
		{"a1b22", "%d+", 0, true, match(1, 2)},
		{"a1b22", "%d+", 4, true, match(4, 5)},
		{"a1b22", "%d+", 5, false, api.Match{}},
		{"THE (quick) fox", "%((%a+)%)", 0, true, match(4, 11, 5, 10)},
		{"f(a(b)c)d", "%b()", 0, true, match(1, 8)},
		{"xay", "^a", 0, false, api.Match{}},
		{"xay", "^a", 1, true, match(1, 2)},
		{"xay", "^", 3, true, match(3, 3)},
		{"xay", "y$", 0, true, match(2, 3)},
		{"xay", "$", 0, true, match(3, 3)},
		{"xay", "^$", 3, true, match(3, 3)},
		{"", "", 0, true, match(0, 0)},
		{"abc", "", 2, true, match(2, 2)},
		{"abc", "b*", 0, true, match(0, 0)},
		{"abc", "()b()", 0, true, match(1, 2, 1, -1, 2, -1)},
		{"aXb", "%f[%u]", 0, true, match(1, 1)},
		{"aXb", "%f[%u]", 2, false, api.Match{}},
	} {
		if m, ok, e := pattern.Find(x.s, x.p, x.from); ok != x.ok || e != api.OK || !same(m, x.want) {
			t.Errorf("case %d: Find(%q, %q, %d): %v, %v, error %d", i, x.s, x.p, x.from, m, ok, int(e))
		}
	}
}

// TestErrorsOfMatching checks the errors of the calls that match, and that nothing else is returned with them.
func TestErrorsOfMatching(t *testing.T) {
	for _, x := range []struct {
		p    string
		at   int
		want api.Errno
	}{
		{"a", -1, api.ErrRange}, {"a", 3, api.ErrRange}, {"", 3, api.ErrRange}, {"^a", -1, api.ErrRange}, {"a", math.MinInt, api.ErrRange}, {"a", math.MaxInt, api.ErrRange},
		{"(", 0, api.ErrForm}, {"(", -1, api.ErrForm}, {"%", 9, api.ErrForm}, {strings.Repeat("()", 17), 0, api.ErrLimit}, {strings.Repeat("()", 17), -1, api.ErrLimit},
	} {
		if m, ok, e := pattern.At("aa", x.p, x.at); !same(m, api.Match{}) || ok || e != x.want {
			t.Errorf("At(%q, %d): %v, %v, error %d", x.p, x.at, m, ok, int(e))
		}
		if m, ok, e := pattern.Find("aa", x.p, x.at); !same(m, api.Match{}) || ok || e != x.want {
			t.Errorf("Find(%q, %d): %v, %v, error %d", x.p, x.at, m, ok, int(e))
		}
		if x.want == api.ErrRange {
			continue
		}
		if l, e := pattern.All("aa", x.p); len(l) != 0 || e != x.want {
			t.Errorf("All(%q): %v, error %d", x.p, l, int(e))
		}
		if s, n, e := pattern.Replace("aa", x.p, "%", -1); s != "" || n != 0 || e != x.want {
			t.Errorf("Replace(%q): %q, %d, error %d", x.p, s, n, int(e))
		}
	}
}

func TestAll(t *testing.T) {
	for i, x := range []struct {
		s, p string
		want []api.Match
	}{
		{"aab", "a*", []api.Match{match(0, 2), match(3, 3)}},
		{"baab", "a*", []api.Match{match(0, 0), match(1, 3), match(4, 4)}},
		{"abc", "", []api.Match{match(0, 0), match(1, 1), match(2, 2), match(3, 3)}},
		{"", "", []api.Match{match(0, 0)}},
		{"", "a", nil},
		{"aaa", "a", []api.Match{match(0, 1), match(1, 2), match(2, 3)}},
		{"aaa", "aa", []api.Match{match(0, 2)}},
		{"aaa", "^a", []api.Match{match(0, 1)}},
		{"aaa", "^", []api.Match{match(0, 0)}},
		{"aaa", "^b*", []api.Match{match(0, 0)}},
		{"baa", "^a", nil},
		{"aaa", "a$", []api.Match{match(2, 3)}},
		{"aaa", "$", []api.Match{match(3, 3)}},
		{"a b", "()%a", []api.Match{match(0, 1, 0, -1), match(2, 3, 2, -1)}},
		{"k=v, x=y", "(%w)=(%w)", []api.Match{match(0, 3, 0, 1, 2, 3), match(5, 8, 5, 6, 7, 8)}},
		{"ab", ".-", []api.Match{match(0, 0), match(1, 1), match(2, 2)}},
		{"ab cd", "%f[%a]", []api.Match{match(0, 0), match(3, 3)}},
		{"a.b", "%f[%A]", []api.Match{match(1, 1), match(3, 3)}},
	} {
		if l, e := pattern.All(x.s, x.p); !sameAll(l, x.want) || e != api.OK {
			t.Errorf("case %d: All(%q, %q): %v, error %d", i, x.s, x.p, l, int(e))
		}
	}
}

// TestMatchesShareNoMemory changes a match and looks at the others.
func TestMatchesShareNoMemory(t *testing.T) {
	list, _ := pattern.All("ab", "(.)")
	list[0].Caps[0] = api.Cap{From: 7, To: 8}
	if len(list) != 2 || !same(list[1], match(1, 2, 1, 2)) {
		t.Errorf("All: %v", list)
	}
}

func TestFill(t *testing.T) {
	m := match(1, 4, 1, 2, 3, -1, 2, 4, 4, 4)
	for repl, want := range map[string]string{
		"": "", "x": "x", "%0": "bcd", "%1": "b", "%2": "4", "%3": "cd", "%4": "", "%%": "%", "%%1": "%1", "<%2%1%%%0>": "<4b%bcd>", "%10": "b0", "\x00\xff": "\x00\xff", "%1%1%1": "bbb", "a%%": "a%",
	} {
		if s, e := pattern.Fill("abcde", repl, m); s != want || e != api.OK {
			t.Errorf("Fill(%q): %q, error %d; want %q", repl, s, int(e), want)
		}
	}
	for _, repl := range []string{"%", "a%", "%5", "%9", "%a", "% ", "%1%", "%\x00", "%-1", "%/", "%:", "%\xff", "%%%", "%5" + strings.Repeat("a", 5000), strings.Repeat("a", 5000) + "%"} {
		if s, e := pattern.Fill("abcde", repl, m); s != "" || e != api.ErrForm {
			t.Errorf("Fill(%.40q): %q, error %d", repl, s, int(e))
		}
	}
	if s, e := pattern.Fill("ab", "%1%0", match(1, 2)); s != "bb" || e != api.OK {
		t.Errorf("Fill without captures: %q, error %d", s, int(e))
	}
	if s, e := pattern.Fill("ab", "%2", match(1, 2)); s != "" || e != api.ErrForm {
		t.Errorf("Fill without captures: %q, error %d", s, int(e))
	}
	ten := match(0, 10)
	for i := range 10 {
		ten.Caps = append(ten.Caps, api.Cap{From: i, To: i + 1})
	}
	if s, e := pattern.Fill("abcdefghij", "%9%8%7%6%5%4%3%2%1%10", ten); s != "ihgfedcbaa0" || e != api.OK {
		t.Errorf("Fill with ten captures: %q, error %d", s, int(e))
	}
	if s, e := pattern.Fill("abcdefghij", "%:", ten); s != "" || e != api.ErrForm {
		t.Errorf("Fill with ten captures: %q, error %d", s, int(e))
	}
}

func TestFillWithInvalidMatches(t *testing.T) {
	for _, m := range []api.Match{
		match(-1, 1), match(1, 0), match(0, 4), match(4, 4), match(0, -1), match(math.MinInt, 0), match(0, math.MaxInt), match(-1, -1),
		match(0, 1, -1, 1), match(0, 1, 2, 1), match(0, 1, 0, 4), match(0, 1, 4, 4), match(0, 1, 0, -2), match(0, 1, -1, -1), match(0, 1, 4, -1), match(0, 1, math.MaxInt, -1),
		match(0, 1, 0, 1, 0, 1, 3, 2), match(0, 1, 0, math.MinInt), match(2, 1, 0, -1),
	} {
		for _, repl := range []string{"x", "", "%", strings.Repeat("x", 5000)} {
			if s, e := pattern.Fill("abc", repl, m); s != "" || e != api.ErrArg {
				t.Errorf("Fill(%.9q, %v): %q, error %d", repl, m, s, int(e))
			}
		}
	}
	// The captures need not lie in the match, but in the string.
	for _, m := range []api.Match{match(0, 0), match(3, 3), match(0, 3), match(0, 1, 0, 3, 3, 3, 3, -1, 0, -1), match(3, 3, 0, 0)} {
		if s, e := pattern.Fill("abc", "x", m); s != "x" || e != api.OK {
			t.Errorf("Fill(%v): %q, error %d", m, s, int(e))
		}
	}
}

func TestFillOfLongStrings(t *testing.T) {
	long := strings.Repeat("s", api.MaxString)
	m := match(0, api.MaxString, 0, 1, 4095, -1, 0, 0)
	for _, repl := range []string{long, "%0", long[1:] + "%1", "%1" + long[1:], long[1:] + "%%", long[4:] + "%2", long + "%3", "%3%0%3"} {
		if s, e := pattern.Fill(long, repl, m); len(s) != api.MaxString || e != api.OK {
			t.Errorf("Fill(%.9q): %d bytes, error %d", repl, len(s), int(e))
		}
	}
	for _, repl := range []string{long + "s", "%0s", "s%0", "%0%0", "%0%1", long + "%1", long + "%%", long[3:] + "%2", "%0s%3", "s%0%3", long + long + "%1"} {
		if s, e := pattern.Fill(long, repl, m); s != "" || e != api.ErrLong {
			t.Errorf("Fill(%.9q): %d bytes, error %d", repl, len(s), int(e))
		}
		if s, e := pattern.Fill(long, repl+"%", m); s != "" || e != api.ErrForm {
			t.Errorf("Fill(%.9q) and %%: %d bytes, error %d", repl, len(s), int(e))
		}
	}
}

func TestReplace(t *testing.T) {
	for i, x := range []struct {
		s, p, repl string
		most       int
		want       string
		n          int
	}{
		{"hello", "l", "[%0]", 1, "he[l]lo", 1}, {"hello", "l", "[%0]", -1, "he[l][l]o", 2}, {"hello", "l", "[%0]", 0, "hello", 0}, {"hello", "l", "[%0]", 2, "he[l][l]o", 2},
		{"hello", "l", "[%0]", math.MaxInt, "he[l][l]o", 2}, {"hello", "l", "[%0]", math.MinInt, "he[l][l]o", 2}, {"hello", "x", "%", -1, "hello", 0}, {"hello", "l", "%", 0, "hello", 0},
		{"  trim  ", "^%s*(.-)%s*$", "%1", -1, "trim", 1}, {"abc", "()", "%1", -1, "1a2b3c4", 4}, {"abc", "", "-", 2, "-a-bc", 2}, {"abc", "%w", "%0%0", -1, "aabbcc", 3},
		{"key=val", "(%w+)=(%w+)", "%2=%1", -1, "val=key", 1}, {"aaa", "^a", "b", -1, "baa", 1}, {"aab", "a*", "x", -1, "xbx", 2}, {"", "", "x", -1, "x", 1}, {"abc", "%w", "", -1, "", 3},
		{"a,b", ",", "%%", -1, "a%b", 1},
	} {
		if s, n, e := pattern.Replace(x.s, x.p, x.repl, x.most); s != x.want || n != x.n || e != api.OK {
			t.Errorf("case %d: %q, %d, error %d", i, s, n, int(e))
		}
	}
}

func TestReplaceErrors(t *testing.T) {
	long := strings.Repeat("s", api.MaxString)
	for i, x := range []struct {
		s, p, repl string
		most       int
		want       api.Errno
	}{
		{"a", "a", "%", -1, api.ErrForm}, {"a", "a", "%2", -1, api.ErrForm}, {"a", "(a)", "%2", 1, api.ErrForm}, {"aa", "a", "%x", 1, api.ErrForm},
		{"a", "a", long + "s", -1, api.ErrLong}, {"a", "a", long + "s%", -1, api.ErrForm}, {"ab", "a", long, -1, api.ErrLong}, {"ba", "a", long, -1, api.ErrLong}, {"aa", "a", long, -1, api.ErrLong},
		{long + "s", "x", "", -1, api.ErrLong}, {long + "s", "s", "", 0, api.ErrLong}, {long, "$", "s", -1, api.ErrLong}, {long, "^", "s", -1, api.ErrLong}, {long + long, "s", "s", -1, api.ErrLong},
		{long + "a", "a", "%", -1, api.ErrForm}, {long + "ss", "s", "", 1, api.ErrLong}, {strings.Repeat("s", 60000), "s", "%", -1, api.ErrLimit}, {long + "aa", "a", "%2", -1, api.ErrForm},
	} {
		if s, n, e := pattern.Replace(x.s, x.p, x.repl, x.most); s != "" || n != 0 || e != x.want {
			t.Errorf("case %d: %.20q, %d, error %d", i, s, n, int(e))
		}
	}
	for i, x := range []struct {
		s, p, repl string
		most, n    int
	}{
		{"a", "a", long, -1, 1}, {"aa", "a", long[1:], 1, 1}, {long, "s", "x", -1, api.MaxString}, {long + "s", "s", "", 1, 1}, {long[1:], "$", "s", -1, 1}, {long, "x", "%", -1, 0}, {long, "s", "", 0, 0},
	} {
		if s, n, e := pattern.Replace(x.s, x.p, x.repl, x.most); len(s) != api.MaxString || n != x.n || e != api.OK {
			t.Errorf("case %d: %d bytes, %d, error %d", i, len(s), n, int(e))
		}
	}
}

func TestEscape(t *testing.T) {
	for s, want := range map[string]string{"": "", "a.b%": "a%.b%%", "aZ09": "aZ09", "_ \n\x00\xff": "%_% %\n%\x00%\xff", "^(a)$": "%^%(a%)%$", "[x-y]*": "%[x%-y%]%*"} {
		if got := pattern.Escape(s); got != want {
			t.Errorf("Escape(%q): %q", s, got)
		}
	}
	for c := range 256 {
		s := string([]byte{byte(c)})
		want := "%" + s
		if hasByte(lower+upper+digits, byte(c)) {
			want = s
		}
		if got := pattern.Escape(s); got != want {
			t.Errorf("Escape(%q): %q", s, got)
		}
	}
}

// TestPositions checks that positions are written in decimal, from 1 on.
func TestPositions(t *testing.T) {
	s := strings.Repeat("-", 1200) + "x"
	for _, at := range []int{0, 8, 9, 98, 99, 999, 1200} {
		if got, e := pattern.Fill(s, "%1", match(0, 0, at, -1)); got != strconv.Itoa(at+1) || e != api.OK {
			t.Errorf("Fill of the position %d: %q, error %d", at, got, int(e))
		}
	}
}
