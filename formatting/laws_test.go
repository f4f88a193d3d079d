package formatting_test

import (
	"fmt"
	"regexp"
	"slices"
	"strconv"
	"strings"
	"testing"

	"scripting/api"
	"scripting/formatting"
	"scripting/lexer"
	"scripting/numeral"
)

// part is a directive or %% or another byte, at the beginning of a format.
var part = regexp.MustCompile(`^(?:%([-0+]*)([1-9][0-9]?)?(?:\.([0-9]|0[0-9]|1[0-2]))?([dxXofscqg])|(%%)|([^%]))`)

// wantPieces returns the parts of a format from the definition, and whether it is one.
func wantPieces(f string) ([]formatting.Piece, bool) {
	var list []formatting.Piece
	between := false // the last part is a text that goes on
	for f != "" {
		// Bytes that are no characters are replaced for the expression only, which reads one byte of them.
		m := part.FindStringSubmatch(ascii(f))
		if m == nil {
			return nil, false
		}
		if m[4] == "" {
			if !between {
				list, between = append(list, formatting.Piece{}), true
			}
			list[len(list)-1].Text += f[:1]
		} else {
			p := formatting.Piece{Verb: m[4][0], Minus: strings.Contains(m[1], "-"), Zero: strings.Contains(m[1], "0"), Plus: strings.Contains(m[1], "+"), Places: -1}
			p.Width, _ = strconv.Atoi("0" + m[2])
			if m[3] != "" {
				p.Places, _ = strconv.Atoi(m[3])
			}
			list, between = append(list, p), false
		}
		f = f[len(m[0]):]
	}
	return list, true
}

// ascii returns s with another byte in the place of each one that ASCII does not have.
func ascii(s string) string {
	b := []byte(s)
	for i := range b {
		b[i] = min(b[i], 127)
	}
	return string(b)
}

// agrees compares the parts of a format with the definition, and checks P9.5. It reports whether s is a format.
func agrees(t *testing.T, f string) bool {
	t.Helper()
	want, well := wantPieces(f)
	wantError := api.OK
	if !well {
		wantError = api.ErrForm
	}
	l, e := formatting.Pieces(f)
	if !slices.Equal(l, want) || e != wantError {
		t.Fatalf("Pieces(%q): %+v, error %d; want %+v, error %d", f, l, int(e), want, int(wantError))
	}
	if !well {
		wantWrong(t, f, nil, 0, api.ErrForm)
		return false
	}
	args := fitting(l)
	if _, n, e := formatting.Format(f, args); n != 0 || e != api.OK {
		t.Fatalf("Format(%q) with %d arguments: %d, error %d", f, len(args), n, int(e))
	}
	for n := range args {
		wantWrong(t, f, args[:n], n+1, api.ErrEmpty)
	}
	return true
}

// fitting returns arguments that fit the directives.
func fitting(l []formatting.Piece) []api.Value {
	var args []api.Value
	for _, p := range l {
		if p.Verb != 0 {
			args = append(args, str("7"))
		}
	}
	return args
}

// TestAllShortFormats covers P9.1 and P9.5 for all short strings of the bytes that matter.
func TestAllShortFormats(t *testing.T) {
	formats := 0
	var rest func(f string, left int)
	rest = func(f string, left int) {
		if agrees(t, f) {
			formats++
		}
		for i := 0; left > 0 && i < len("%-019.dz"); i++ {
			rest(f+"%-019.dz"[i:i+1], left-1)
		}
	}
	rest("", 6)
	if formats < 1000 {
		t.Errorf("only %d formats", formats)
	}
}

// chance returns numbers that look like those of chance.
type chance struct{ state uint64 }

// below returns a number from 0 to n - 1.
func (c *chance) below(n int) int {
	c.state = c.state*6364136223846793005 + 1442695040888963407
	return int(c.state >> 33 % uint64(n))
}

// pick returns an element of a list.
func pick[T any](c *chance, l ...T) T { return l[c.below(len(l))] }

// TestFormatsByChance covers P9.1 and P9.5 for longer formats.
func TestFormatsByChance(t *testing.T) {
	c := &chance{5}
	formats := 0
	for range 60000 {
		f := ""
		for range 1 + c.below(4) {
			f += pick(c, "", "", "a", "%%", "\xff", "é") + "%" + pick(c, "", "", "-", "0", "+", "-0", "+-0") + pick(c, "", "", "1", "9", "10", "99", "100", "05") +
				pick(c, "", "", "", ".0", ".5", ".12", ".09", ".13", ".", ".120", "..") + pick(c, "d", "x", "X", "o", "f", "s", "c", "q", "g", "g", "y", "%", "")
		}
		if agrees(t, f) {
			formats++
		}
	}
	if formats < 5000 {
		t.Errorf("only %d formats", formats)
	}
}

// goFormat returns the directive of Go's package fmt whose result, for this argument, is the one that is wanted.
func goFormat(p formatting.Piece) string {
	f := "%"
	if p.Minus {
		f += "-"
	}
	if p.Zero && strings.IndexByte("dxXof", p.Verb) >= 0 && !p.Minus {
		f += "0"
	}
	if p.Plus && strings.IndexByte("df", p.Verb) >= 0 {
		f += "+"
	}
	if p.Width > 0 {
		f += strconv.Itoa(p.Width)
	}
	return f
}

// wantWritten returns what a directive makes of a whole number or a string, by Go's package fmt.
func wantWritten(p formatting.Piece, n int, s string) string {
	switch p.Verb {
	case 'd', 'x', 'X', 'o':
		return fmt.Sprintf(goFormat(p)+string(rune(p.Verb)), n)
	case 'f':
		places := p.Places
		if places < 0 {
			places = 6
		}
		return fmt.Sprintf(goFormat(p)+"."+strconv.Itoa(places)+"f", float64(n))
	case 'g':
		s = strconv.Itoa(n)
		if p.Plus && n >= 0 {
			s = "+" + s
		}
	case 'c':
		s = string([]byte{byte(n)})
	case 'q':
		s = lexer.Quote(s)
	case 's':
		if p.Places >= 0 {
			s = s[:min(len(s), p.Places)]
		}
	}
	blanks := ""
	for len(blanks)+len(s) < p.Width {
		blanks += " "
	}
	if p.Minus {
		return s + blanks
	}
	return blanks + s
}

// TestDirectivesByChance covers P9.2 for all flags and verbs with many widths, places and arguments.
func TestDirectivesByChance(t *testing.T) {
	c := &chance{9}
	for range 100000 {
		verb := "dxXofscqg"[c.below(9)]
		f := "%" + pick(c, "", "-", "0", "+", "-0", "-+", "0+", "-0+") + pick(c, "", "1", "2", "3", "5", "8", "13", "40", "99") + pick(c, "", "", ".0", ".1", ".2", ".6", ".12") + string(rune(verb))
		n := pick(c, c.below(3), c.below(256), c.below(1<<31), api.MaxNum)
		if c.below(2) == 0 && strings.IndexByte("dfg", verb) >= 0 {
			n = -n
		}
		if verb == 'c' {
			n &= 255
		}
		s := pick(c, "", "-", "ab", "-12", "a\n\xff\"", "0123456789abcdef")
		a := str(s)
		if verb != 's' && verb != 'q' {
			a = pick(c, num(n, 1), str(strconv.Itoa(n)), str(" "+strconv.Itoa(n)+"/1\t"))
		}
		l, _ := formatting.Pieces(f)
		if len(l) != 1 {
			t.Fatalf("Pieces(%s): %+v", f, l)
		}
		wantText(t, f, []api.Value{a}, wantWritten(l[0], n, s))
	}
}

// TestDirectivesTogether covers P9.2: a format is formatted as its parts are.
func TestDirectivesTogether(t *testing.T) {
	c := &chance{13}
	for range 5000 {
		f, want, args := "", "", []api.Value(nil)
		for range c.below(6) {
			one, a := pick(c, "%d", "%05x", "%-7s|", "%+.3f", "%c", "%g", "%3o", "%+d"), pick(c, num(65, 1), num(0, 1), str("12"), num(200, 1))
			s, n, e := formatting.Format(one, []api.Value{a})
			if n != 0 || e != api.OK {
				t.Fatalf("Format(%s): %d, error %d", one, n, int(e))
			}
			f, want, args = f+one, want+s, append(args, a)
			words := pick(c, "", "%%", "x\xff", "\n")
			f, want = f+words, want+strings.ReplaceAll(words, "%%", "%")
		}
		wantText(t, f, args, want)
		wantText(t, f, append(args, api.Value{}, num(1, 2)), want)
	}
}

// TestNumbersAsTheyAre covers f and g of P9.2 for fractions.
func TestNumbersAsTheyAre(t *testing.T) {
	for p := -40; p <= 40; p++ {
		for q := 1; q <= 12; q++ {
			a, e := numeral.Parse(strconv.Itoa(p) + "/" + strconv.Itoa(q))
			if e != api.OK {
				t.Fatal(int(e))
			}
			for places := range 13 {
				want, _ := numeral.Fixed(a, places)
				wantText(t, "%."+strconv.Itoa(places)+"f", []api.Value{num(a.P, a.Q)}, want)
				if want[0] != '-' {
					want = "+" + want
				}
				wantText(t, "%+."+strconv.Itoa(places)+"f", []api.Value{num(a.P, a.Q)}, want)
			}
			wantText(t, "%g", []api.Value{num(a.P, a.Q)}, numeral.Text(a))
			wantText(t, "%s", []api.Value{num(a.P, a.Q)}, numeral.Text(a))
			want, _ := numeral.Fixed(a, 6)
			wantText(t, "%f", []api.Value{str(numeral.Text(a))}, want)
		}
	}
}

// TestFormatsWithoutPercentSign covers P9.4.
func TestFormatsWithoutPercentSign(t *testing.T) {
	every := make([]byte, 0, 256)
	for b := range 256 {
		if b != '%' {
			every = append(every, byte(b))
		}
	}
	for _, f := range []string{"", "a", "d", "-0+5.3s", string(every), strings.Repeat(string(every), 16), strings.Repeat("é", api.MaxString/2)} {
		wantText(t, f, nil, f)
		wantText(t, f, others(), f)
	}
}

// TestLiterals covers P9.6.
func TestLiterals(t *testing.T) {
	strs := []string{"", "a", "\"", "\\n", strings.Repeat("x", api.MaxString-2), strings.Repeat("\n", api.MaxString/2-1), strings.Repeat("\xff", api.MaxString/4-1)}
	for b := range 256 {
		strs = append(strs, string([]byte{byte(b)}), string([]byte{byte(b), '0'}), string([]byte{'\\', byte(b)}))
	}
	for _, s := range strs {
		text, n, e := formatting.Format("%q", []api.Value{str(s)})
		if n != 0 || e != api.OK {
			t.Errorf("Format of %.20q: %d, error %d", s, n, int(e))
		}
		l, line, e := lexer.Scan(text)
		if len(l) != 1 || l[0].Kind != api.TokString || l[0].Text != s || line != 0 || e != api.OK {
			t.Errorf("Scan(%.20q): %d tokens, line %d, error %d", text, len(l), line, int(e))
		}
	}
	for _, s := range []string{strings.Repeat("x", api.MaxString-1), strings.Repeat("\n", api.MaxString/2), strings.Repeat("\xff", api.MaxString/4)} {
		wantWrong(t, "%q", []api.Value{str(s)}, 0, api.ErrLong)
	}
}

// TestNothingIsChanged covers Rule 4: the arguments stay as they are, and a result is new memory.
func TestNothingIsChanged(t *testing.T) {
	args := []api.Value{num(1, 2), str("-7"), str("ab")}
	before := slices.Clone(args)
	first, _, _ := formatting.Format("%f%d%q", args)
	if again, _, _ := formatting.Format("%f%d%q", args); first != again || !slices.Equal(args, before) {
		t.Errorf("%q, then %q, of %v", first, again, args)
	}
	one, _ := formatting.Pieces("a%db")
	two, _ := formatting.Pieces("a%db")
	one[1].Verb, one[0].Text = 'z', "z"
	if two[1].Verb != 'd' || two[0].Text != "a" {
		t.Error("two results of Pieces share memory")
	}
}
