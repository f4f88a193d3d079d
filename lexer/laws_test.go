package lexer_test

import (
	"regexp"
	"slices"
	"strconv"
	"strings"
	"testing"

	"scripting/api"
	"scripting/lexer"
	"scripting/numeral"
)

var (
	blankForm   = regexp.MustCompile(`^(?:[ \t\n\r]|--[^\n]*)*`)
	wordForm    = regexp.MustCompile(`^[A-Za-z_][A-Za-z0-9_]*`)
	numberForm  = regexp.MustCompile(`^(?:0[xX][0-9a-fA-F]+|[0-9]+\.[0-9]+|[0-9]+)`)
	followForm  = regexp.MustCompile(`^[A-Za-z0-9_]`)
	singleForm  = regexp.MustCompile(`^(?:[^'\\\n]|\\[nt\\'"]|\\x[0-9a-fA-F]{2}|\\[0-9]{1,3})*`)
	doubleForm  = regexp.MustCompile(`^(?:[^"\\\n]|\\[nt\\'"]|\\x[0-9a-fA-F]{2}|\\[0-9]{1,3})*`)
	elementForm = regexp.MustCompile(`[^\\]|\\x..|\\[0-9]{1,3}|\\.`)
	symbolForm  = regexp.MustCompile(`^(?:\.\.\.|\.\.|//|<<|>>|==|~=|<=|>=|::|[-+*/%^#&~|<>=(){}\[\];:,.])`)
)

// wantScan returns what Scan has to return for a short text of bytes below 128.
func wantScan(s string) ([]api.Token, int, api.Errno) {
	var list []api.Token
	for at := 0; ; {
		at += len(blankForm.FindString(s[at:]))
		if at == len(s) {
			return list, 0, api.OK
		}
		line := 1 + strings.Count(s[:at], "\n")
		kind, text, size, e := wantToken(s, at)
		if e != api.OK {
			return nil, line, e
		}
		list = append(list, tok(kind, text, line, at))
		at += size
	}
}

// wantToken returns the token at an index: its kind, its text, and the number of its bytes.
func wantToken(s string, at int) (int, string, int, api.Errno) {
	if m := wordForm.FindString(s[at:]); m != "" {
		if slices.Contains(keywords(), m) {
			return api.TokKeyword, m, len(m), api.OK
		}
		return api.TokName, m, len(m), api.OK
	}
	if m := numberForm.FindString(s[at:]); m != "" {
		if _, _, e := numeral.Scan(s, at); e != api.OK {
			return 0, "", 0, e
		}
		if followForm.MatchString(s[at+len(m):]) {
			return 0, "", 0, api.ErrForm
		}
		return api.TokNumber, m, len(m), api.OK
	}
	if s[at] == '\'' {
		return wantString(s[at+1:], "'", singleForm)
	}
	if s[at] == '"' {
		return wantString(s[at+1:], `"`, doubleForm)
	}
	if m := symbolForm.FindString(s[at:]); m != "" {
		return api.TokSymbol, m, len(m), api.OK
	}
	return 0, "", 0, api.ErrForm
}

// wantString returns the string literal whose bytes after the first quote are s.
func wantString(s, quote string, form *regexp.Regexp) (int, string, int, api.Errno) {
	m := form.FindString(s)
	text := ""
	for _, x := range elementForm.FindAllString(m, -1) {
		n := int(x[0])
		switch {
		case len(x) > 1 && x[1] == 'x':
			v, _ := strconv.ParseInt(x[2:], 16, 0)
			n = int(v)
		case len(x) > 1 && x[1] >= '0' && x[1] <= '9':
			n, _ = strconv.Atoi(x[1:])
		case len(x) > 1:
			n = int(map[byte]byte{'n': 10, 't': 9, '\\': 92, '\'': 39, '"': 34}[x[1]])
		}
		if n > 255 {
			return 0, "", 0, api.ErrRange
		}
		text += string([]byte{byte(n)})
	}
	if !strings.HasPrefix(s[len(m):], quote) {
		return 0, "", 0, api.ErrForm
	}
	return api.TokString, text, len(m) + 2, api.OK
}

// allTexts calls f with all texts of at most so many bytes of an alphabet.
func allTexts(alphabet string, most int, f func(s string)) {
	texts := []string{""}
	for n := 0; ; n++ {
		for _, s := range texts {
			f(s)
		}
		if n == most {
			return
		}
		var longer []string
		for _, s := range texts {
			for i := range len(alphabet) {
				longer = append(longer, s+alphabet[i:i+1])
			}
		}
		texts = longer
	}
}

// checkText compares Scan of a text with what is wanted, and checks P3.7 and P3.8.
func checkText(t *testing.T, s string) {
	want, wantLine, wantE := wantScan(s)
	got, line, e := lexer.Scan(s)
	if !slices.Equal(got, want) || line != wantLine || e != wantE {
		t.Errorf("Scan(%q): %v, line %d, error %d; want %v, line %d, error %d", s, got, line, int(e), want, wantLine, int(wantE))
	}
	checkOrder(t, s, got)
	if e == api.OK {
		checkJoin(t, got)
	}
}

// checkOrder is P3.8.
func checkOrder(t *testing.T, s string, list []api.Token) {
	for i, x := range list {
		if x.At < 0 || x.At >= len(s) || i > 0 && (x.At <= list[i-1].At || x.Line < list[i-1].Line) {
			t.Errorf("Scan(%.60q): token %d is %v", s, i, x)
		}
	}
}

// checkJoin is P3.7.
func checkJoin(t *testing.T, list []api.Token) {
	joined := lexer.Join(list)
	again, _, e := lexer.Scan(joined)
	same := func(a, b api.Token) bool { return a.Kind == b.Kind && a.Text == b.Text }
	if len(joined) <= api.MaxText && (e != api.OK || !slices.EqualFunc(list, again, same)) {
		t.Errorf("Scan(%.60q): %v, error %d; want the kinds and texts of %v", joined, again, int(e), list)
	}
}

func TestAllShortTexts(t *testing.T) {
	for _, x := range []struct {
		alphabet string
		most     int
	}{
		{"a_F09x.- \n", 5}, {"if9or \r\n-'\t", 4}, {`"'\n0`, 6}, {"'\\x1fG\n", 6}, {"\"\\2560a", 6}, {"+-*/%^#&~|<>=(){}[]:;,.! \n", 3}, {".-~=<>/:", 5},
	} {
		allTexts(x.alphabet, x.most, func(s string) { checkText(t, s) })
	}
}

// TestAllBytes checks that no byte is taken for another one.
func TestAllBytes(t *testing.T) {
	for c := range 128 {
		b := string([]byte{byte(c)})
		for _, s := range []string{b, "a" + b, "a" + b + "c", "1" + b, "1" + b + "2", "0x1" + b, "'" + b + "'", "\"" + b + "\"", `'\` + b + `11'`, `'\x` + b + `1'`, `'\x1` + b + `'`, `'\1` + b + `'`, "--" + b + "a", b + b + b} {
			checkText(t, s)
		}
	}
	for c := 128; c < 256; c++ {
		b := string([]byte{byte(c)})
		for _, s := range []string{b, "a" + b, "1" + b, "=" + b, " " + b, `'\` + b + `'`, `'\x` + b + `1'`} {
			fails(t, s, 1, api.ErrForm)
		}
		scans(t, "'"+b+"'", tok(api.TokString, b, 1, 0))
		scans(t, "--"+b)
	}
}

// TestQuotedStringsAreScanned is P3.6.
func TestQuotedStringsAreScanned(t *testing.T) {
	list := []string{"", "a", "\\n", "\\", "\\\\", "'", "\"", "--", "a -- b", strings.Repeat("\xff", api.MaxString), strings.Repeat("\\", api.MaxString), strings.Repeat("\n", api.MaxString)}
	for c := range 256 {
		b := string([]byte{byte(c)})
		list = append(list, b, b+b, "a"+b)
		for i := range 10 {
			list = append(list, b+strconv.Itoa(i), b+"\\"+strconv.Itoa(i), b+strconv.Itoa(100*i))
		}
	}
	all := make([]byte, 256)
	for c := range all {
		all[c] = byte(c)
	}
	for _, s := range append(list, string(all), strings.Repeat(string(all), 16)) {
		scans(t, lexer.Quote(s), tok(api.TokString, s, 1, 0))
	}
	fails(t, lexer.Quote(strings.Repeat("a", api.MaxString+1)), 1, api.ErrLimit)
}

// TestScanOfProgram scans a text with all kinds of tokens.
func TestScanOfProgram(t *testing.T) {
	s := `-- greatest common divisor
local function gcd(a, b)
	while b ~= 0 do a, b = b, a % b end -- Euclid
	return a
end
local t <const> = { x = 1.25, ["y\065\x42"] = 'it\'s', 0x1F; ... }
goto done ::done:: print(#t .. "a" << 3 >> 1 // 2 ^ -7, a.b:c "s", ~1 & 2 | 3 >= 4 <= 5 < 6 > 7 == not nil and true or false)`
	checkText(t, s)
	list, _, e := lexer.Scan(s)
	if e != api.OK || list[0] != tok(api.TokKeyword, "local", 2, 27) || list[len(list)-1] != tok(api.TokSymbol, ")", 7, len(s)-1) {
		t.Errorf("Scan: %d tokens, error %d", len(list), int(e))
	}
}
