package pattern_test

import (
	"strings"
	"testing"

	"scripting/api"
	"scripting/pattern"
)

// many returns n times a.
func many(n int) string { return strings.Repeat("a", n) }

// fixed returns a function that returns a pattern, whatever its argument is.
func fixed(p string) func(n int) string { return func(int) string { return p } }

// repeated returns a function that returns n times a pattern.
func repeated(p string) func(n int) string {
	return func(n int) string { return strings.Repeat(p, n) }
}

// Calls that are limited; each takes a string and a pattern.
func callAt(s, p string) api.Errno {
	_, _, e := pattern.At(s, p, 0)
	return e
}

func callFind(s, p string) api.Errno {
	_, _, e := pattern.Find(s, p, 0)
	return e
}

func callAll(s, p string) api.Errno {
	_, e := pattern.All(s, p)
	return e
}

func callReplace(s, p string) api.Errno {
	_, _, e := pattern.Replace(s, p, "", -1)
	if e == api.ErrLong {
		// Then all matches were found.
		return api.OK
	}
	return e
}

// TestStepsOfRules checks, for each rule, the greatest size for which the steps suffice.
func TestStepsOfRules(t *testing.T) {
	for i, x := range []struct {
		call func(s, p string) api.Errno
		s, p func(n int) string
		most int
	}{
		{callAt, many, many, 99999},                                                            // 6: n + 1
		{callAt, many, repeated("."), 99999},                                                   // 6
		{callAt, many, fixed("a*"), 99998},                                                     // 8: 1 + n + 1
		{callAt, many, fixed("a+"), 99998},                                                     // 8
		{callAt, many, fixed("a*$"), 99998},                                                    // 8
		{callAt, many, fixed("a*b"), 49999},                                                    // 8 and 6: 1 + n + (n + 1)
		{callAt, many, fixed("a+b"), 49999},                                                    // 8 and 6: 1 + n + n
		{callAt, many, fixed("a-$"), 49999},                                                    // 9 and 1: 1 + n + (n + 1)
		{callAt, many, fixed("a-b"), 49999},                                                    // 9 and 6
		{callAt, many, repeated("a?"), 99999},                                                  // 7: n + 1
		{callAt, fixed(""), repeated("a?"), 99999},                                             // 7
		{callAt, fixed(""), repeated("a-"), 99999},                                             // 9
		{callAt, fixed(""), repeated("a*"), 99999},                                             // 8
		{callAt, fixed("a"), repeated("%f[a]"), 99999},                                         // 4
		{callAt, many, func(n int) string { return "(a)" + strings.Repeat("%1", n-1) }, 99997}, // 2, 6 and 5: 3 + (n - 1) + 1
		{callAt, many, fixed("()a*"), 99997},                                                   // 2
		{callAt, many, fixed("(a*)"), 99996},                                                   // 2
		{callAt, many, fixed(strings.Repeat("()", 16) + "a*"), 99982},                          // 2
		{callAt, func(n int) string { return "(" + many(n) + ")" }, fixed("%b()"), 99997},      // 3: 1 + (n + 1) + 1
		{callAt, func(n int) string { return "(" + many(n) }, fixed("%b()"), 99999},            // 3: 1 + n
		{callAt, func(n int) string { return strings.Repeat("(", n) + strings.Repeat(")", n) }, fixed("%b()"), 49999}, // 3: 1 + (2n - 1) + 1
		{callAt, many, fixed("%baa"), 1 << 20},
		{callFind, many, fixed("b"), 99999},    // n + 1
		{callFind, many, fixed("$"), 99999},    // 1: n + 1
		{callFind, many, fixed("^b"), 1 << 20}, // one attempt
		{callFind, many, fixed("a"), 1 << 20},
		{callFind, many, fixed("%b()"), 99999},
		{callAll, many, fixed("b"), 99999},                                                       // n + 1
		{callAll, many, fixed("a"), 49999},                                                       // 2n + 1
		{callAll, many, fixed(""), 49999},                                                        // 2 (n + 1): after an empty match, its index is tried again
		{callAll, many, fixed("a*"), 99996},                                                      // (1 + n + 1) + 2 for the attempt at the end
		{callAll, many, fixed("^a*"), 99998},                                                     // one attempt
		{callAll, fixed(""), func(n int) string { return "^" + strings.Repeat("b?", n) }, 99999}, // one attempt, even if its match is empty
		{callAll, many, fixed("^a"), 1 << 20},                                                    // one attempt
		{callReplace, many, fixed("b"), 99999},
		{callReplace, many, fixed("a"), 49999},
		{callReplace, many, fixed("^a*"), 99998},
	} {
		if e := x.call(x.s(x.most), x.p(x.most)); e != api.OK {
			t.Errorf("case %d: size %d: error %d", i, x.most, int(e))
		}
		if x.most == 1<<20 {
			continue
		}
		if e := x.call(x.s(x.most+1), x.p(x.most+1)); e != api.ErrLimit {
			t.Errorf("case %d: size %d: error %d", i, x.most+1, int(e))
		}
	}
}

// TestStepsAreThoseOfTheRules searches, for each pattern, the least size at which the steps do not suffice, and
// compares the calls there and just before with what is wanted.
func TestStepsAreThoseOfTheRules(t *testing.T) {
	for _, unit := range []string{"a", "ab", "(a)", "aab-"} {
		for _, p := range []string{
			"a*a*b", "a*a*a*%d", "a+b?a-c", "(a*)%1x", "(.-)%1x", "%b()%b()%b()$", "%f[(].-%f[)]x", "(a-)(b-)x", ".-b.-c", "[^b]+b*$", "a?a?a?x", "^(.*)(.*)$x", "^.-x", "()(.-)()x", "(.)(.)%2%1x",
		} {
			size := leastLimited(unit, p)
			for n := size - 1; n <= size; n++ {
				compareLimited(t, strings.Repeat(unit, n), p)
			}
		}
	}
}

// leastLimited returns the least number of units for which Find needs too many steps, or a large one if none does.
func leastLimited(unit, p string) int {
	low, high := 1, 1000
	for low < high {
		n := (low + high) / 2
		o := oracle{s: strings.Repeat(unit, n)}
		if o.wantFind(p, 0); o.limited() {
			high = n
		} else {
			low = n + 1
		}
	}
	return low
}

// compareLimited compares the calls that are limited with what is wanted, for a pattern that is well-formed.
func compareLimited(t *testing.T, s, p string) {
	t.Helper()
	at, found, all := oracle{s: s}, oracle{s: s}, oracle{s: s}
	wantAt, atOK := at.wantAt(p, 0)
	wantFound, foundOK := found.wantFind(p, 0)
	wantAll := all.wantAll(p)
	m, ok, e := pattern.At(s, p, 0)
	if at.limited() && (e != api.ErrLimit || ok || !same(m, api.Match{})) || !at.limited() && (e != api.OK || ok != atOK || !same(m, wantAt)) {
		t.Errorf("At of %d bytes, %q: %v, %v, error %d; %d steps", len(s), p, m, ok, int(e), at.steps)
	}
	m, ok, e = pattern.Find(s, p, 0)
	if found.limited() && (e != api.ErrLimit || ok || !same(m, api.Match{})) || !found.limited() && (e != api.OK || ok != foundOK || !same(m, wantFound)) {
		t.Errorf("Find of %d bytes, %q: %v, %v, error %d; %d steps", len(s), p, m, ok, int(e), found.steps)
	}
	list, e := pattern.All(s, p)
	if all.limited() && (e != api.ErrLimit || len(list) != 0) || !all.limited() && (e != api.OK || !sameAll(list, wantAll)) {
		t.Errorf("All of %d bytes, %q: %d matches, error %d; %d steps", len(s), p, len(list), int(e), all.steps)
	}
	r, k, replaceE := pattern.Replace(s, p, "%", 0)
	if all.limited() && (replaceE != api.ErrLimit || r != "" || k != 0) || !all.limited() && replaceE == api.ErrLimit {
		t.Errorf("Replace of %d bytes, %q: %d, error %d; %d steps", len(s), p, k, int(replaceE), all.steps)
	}
}

// TestStepsOfHardPatterns checks that the calls end at once where the ways are too many to be tried.
func TestStepsOfHardPatterns(t *testing.T) {
	for _, p := range []string{"a*a*a*a*a*a*a*a*b", "a-a-a-a-a-a-a-a-b", strings.Repeat("a?", 5000) + many(5000) + "b", "(.-)(.-)(.-)(.-)%1%2%3%4x", ".*.*.*.*.*x", "a*" + strings.Repeat("a*", 1000) + "b"} {
		for _, call := range []func(s, p string) api.Errno{callAt, callFind, callAll, callReplace} {
			if e := call(many(5000), p); e != api.ErrLimit {
				t.Errorf("%.20q: error %d", p, int(e))
			}
		}
	}
}
