package pattern_test

import (
	"slices"
	"strings"
	"testing"

	"scripting/api"
	"scripting/pattern"
)

// texts returns all strings of at most so many bytes of an alphabet.
func texts(alphabet string, most int) []string {
	all := []string{""}
	last := all
	for range most {
		var longer []string
		for _, s := range last {
			for i := range len(alphabet) {
				longer = append(longer, s+alphabet[i:i+1])
			}
		}
		all, last = append(all, longer...), longer
	}
	return all
}

// compare compares what a pattern does with a string with what is wanted, and reports whether it is well-formed.
func compare(t *testing.T, s, p string) bool {
	t.Helper()
	want := wantCheck(p)
	if e := pattern.Check(p); e != want {
		t.Errorf("Check(%q): error %d, want %d", p, int(e), int(want))
	}
	if want != api.OK {
		return false
	}
	for i := range len(s) + 1 {
		m, ok, e := pattern.At(s, p, i)
		if want, wantOK := (&oracle{s: s}).wantAt(p, i); ok != wantOK || e != api.OK || !same(m, want) {
			t.Errorf("At(%q, %q, %d): %v, %v, error %d; want %v, %v", s, p, i, m, ok, int(e), want, wantOK)
		}
		m, ok, e = pattern.Find(s, p, i)
		if want, wantOK := (&oracle{s: s}).wantFind(p, i); ok != wantOK || e != api.OK || !same(m, want) {
			t.Errorf("Find(%q, %q, %d): %v, %v, error %d; want %v, %v", s, p, i, m, ok, int(e), want, wantOK)
		}
		checkFound(t, s, p, i, m, ok)
	}
	list, e := pattern.All(s, p)
	if want := (&oracle{s: s}).wantAll(p); e != api.OK || !sameAll(list, want) {
		t.Errorf("All(%q, %q): %v, error %d; want %v", s, p, list, int(e), want)
	}
	checkAll(t, s, p, list)
	return true
}

// checkFound is P4.9 and P4.12.
func checkFound(t *testing.T, s, p string, from int, m api.Match, found bool) {
	t.Helper()
	last := len(s)
	if strings.HasPrefix(p, "^") {
		last = from
	}
	if found {
		if x, ok, _ := pattern.At(s, p, m.From); !ok || !same(x, m) {
			t.Errorf("At(%q, %q, %d): %v, %v, but Find returns %v", s, p, m.From, x, ok, m)
		}
		last = m.From - 1
	}
	for i := from; i <= last; i++ {
		if x, ok, _ := pattern.At(s, p, i); ok {
			t.Errorf("At(%q, %q, %d): %v, before the match %v of Find", s, p, i, x, m)
		}
	}
	for _, c := range m.Caps {
		if c.From < m.From || c.From > m.To || c.To != -1 && (c.To < c.From || c.To > m.To) {
			t.Errorf("Find(%q, %q, %d): %v has a capture outside", s, p, from, m)
		}
	}
}

// checkAll is P4.10 and P4.11.
func checkAll(t *testing.T, s, p string, list []api.Match) {
	t.Helper()
	for i, m := range list {
		if i > 0 && (m.From < list[i-1].To || m.To <= list[i-1].To) {
			t.Errorf("All(%q, %q): %v do not ascend", s, p, list)
		}
		if x, ok, _ := pattern.At(s, p, m.From); !ok || !same(x, m) {
			t.Errorf("At(%q, %q, %d): %v, %v, but All returns %v", s, p, m.From, x, ok, m)
		}
	}
	if r, n, e := pattern.Replace(s, p, "%0", -1); r != s || n != len(list) || e != api.OK {
		t.Errorf("Replace(%q, %q) by itself: %q, %d, error %d", s, p, r, n, int(e))
	}
	if r, n, e := pattern.Replace(s, p, "x", 0); r != s || n != 0 || e != api.OK {
		t.Errorf("Replace(%q, %q) of nothing: %q, %d, error %d", s, p, r, n, int(e))
	}
	for most := range len(list) + 2 {
		want, at := "", 0
		for _, m := range list[:min(most, len(list))] {
			want, at = want+s[at:m.From]+"<"+s[m.From:m.To]+">", m.To
		}
		if r, n, e := pattern.Replace(s, p, "<%0>", most); r != want+s[at:] || n != min(most, len(list)) || e != api.OK {
			t.Errorf("Replace(%q, %q, %d): %q, %d, error %d", s, p, most, r, n, int(e))
		}
	}
}

// TestAllShortPatterns compares all patterns of a few bytes, which match short strings.
func TestAllShortPatterns(t *testing.T) {
	for _, x := range []struct {
		alphabet string
		most     int
		strings  []string
	}{
		{"a()%1b^$*", 5, []string{"", "a", "aba", "%(1"}},
		{"ab.*+-?$", 4, texts("ab", 4)},
		{"[]^-a%b]", 5, []string{"a-", "]%^b"}},
		{"%fbaA[]x", 5, []string{"ab", "xA[a]"}},
		{"a?*-()", 5, []string{"aa", "a-(?*)"}},
	} {
		for _, p := range texts(x.alphabet, x.most) {
			for _, s := range x.strings {
				if !compare(t, s, p) {
					break
				}
			}
		}
		if t.Failed() {
			return
		}
	}
}

// TestLongerPatterns compares patterns that are put together from pieces in an order that follows a fixed rule.
func TestLongerPatterns(t *testing.T) {
	pieces := []string{
		"a", "b", ".", "%a", "%A", "[ab]", "[^a]", "[(-)]", "a*", "b*", "a+", "a-", "b-", "a?", ".*", ".-", ".?", ".+", "[ab]*", "%W+", "(", ")", "(", ")", "()", "(a*)", "(.-)", "(b?)",
		"%1", "%2", "%1", "%b()", "%bab", "%f[a]", "%f[^a]", "%f[%c]", "%(", "^", "$", "-",
	}
	seed := uint32(1)
	next := func(n int) int {
		seed = seed*1664525 + 1013904223
		return int(seed>>8) % n
	}
	formed := 0
	for range 60000 {
		p, s := "", ""
		for range 1 + next(7) {
			p += pieces[next(len(pieces))]
		}
		for range next(10) {
			s += "aaabb()-"[next(8):][:1]
		}
		if compare(t, s, p) {
			formed++
		}
		if t.Failed() {
			return
		}
	}
	if formed < 20000 {
		t.Errorf("only %d patterns are well-formed", formed)
	}
}

// TestEscapedStringsMatchThemselves is P4.8.
func TestEscapedStringsMatchThemselves(t *testing.T) {
	all := make([]byte, 256)
	for c := range all {
		all[c] = byte(c)
	}
	list := append(texts("a%^$(*", 3), string(all), strings.Repeat("()", 30), "[^a]", "%b()", "a-", "$$", "^^")
	for _, s := range list {
		p := pattern.Escape(s)
		if e := pattern.Check(p); e != api.OK {
			t.Errorf("Check(%q): error %d", p, int(e))
		}
		for _, x := range []string{s, "a" + s + "%", s + s, "^$a(*%", strings.ToUpper(s), ""} {
			for i := range len(x) + 1 {
				m, ok, e := pattern.At(x, p, i)
				if ok != strings.HasPrefix(x[i:], s) || e != api.OK || ok && !same(m, match(i, i+len(s))) {
					t.Errorf("At(%q, %q, %d): %v, %v, error %d", x, p, i, m, ok, int(e))
				}
			}
		}
	}
	long := strings.Repeat("a.", 49999)
	if m, ok, e := pattern.At("x"+long, pattern.Escape(long), 1); !ok || e != api.OK || !same(m, match(1, 99999)) {
		t.Errorf("At of a long string: %v, %v, error %d", m, ok, int(e))
	}
	if _, ok, e := pattern.At(long[1:], pattern.Escape(long), 0); ok || e != api.OK {
		t.Errorf("At of a long string: %v, error %d", ok, int(e))
	}
}

// TestCapturesOfFailedWays checks that a way that fails leaves nothing in the captures.
func TestCapturesOfFailedWays(t *testing.T) {
	for _, p := range []string{"(a*)(b?)()a%1", "(a+)(a-)%2()b", "((a?)(a*))%2%3b", "(a-)()(b-)%3$", "(.-)(.-)%2%1$", "(.*)(.?)%1%2"} {
		for _, s := range texts("ab", 7) {
			compare(t, s, p)
		}
	}
}

// TestArgumentsAreNotChanged fills with a match and looks at it.
func TestArgumentsAreNotChanged(t *testing.T) {
	m := match(0, 2, 0, 1, 1, -1)
	caps := slices.Clone(m.Caps)
	pattern.Fill("ab", "%1%2", m)
	if !slices.Equal(m.Caps, caps) {
		t.Errorf("Fill changed %v to %v", caps, m.Caps)
	}
}
