package lexer_test

import (
	"slices"
	"strings"
	"testing"

	"scripting/api"
	"scripting/lexer"
)

// tok returns a token.
func tok(kind int, text string, line, at int) api.Token {
	return api.Token{Kind: kind, Text: text, Line: line, At: at}
}

// keywords returns the keywords.
func keywords() []string {
	return strings.Fields("and break do else elseif end false for function goto if in local nil not or repeat return then true until while")
}

// fails checks that Scan reports an error in a line, and nothing else.
func fails(t *testing.T, s string, line int, want api.Errno) {
	t.Helper()
	if l, n, e := lexer.Scan(s); len(l) != 0 || n != line || e != want {
		t.Errorf("Scan(%.60q): %d tokens, line %d, error %d; want line %d, error %d", s, len(l), n, int(e), line, int(want))
	}
}

// scans checks that Scan returns these tokens.
func scans(t *testing.T, s string, want ...api.Token) {
	t.Helper()
	if l, n, e := lexer.Scan(s); !slices.Equal(l, want) || n != 0 || e != api.OK {
		t.Errorf("Scan(%.60q): %v, line %d, error %d; want %v", s, l, n, int(e), want)
	}
}

func TestScan(t *testing.T) {
	scans(t, "a = 0x1F -- b", tok(api.TokName, "a", 1, 0), tok(api.TokSymbol, "=", 1, 2), tok(api.TokNumber, "0x1F", 1, 4))
	scans(t, "")
	scans(t, " \t\r\n-- only a remark")
	scans(t, "--")
	scans(t, "--\n--")
	scans(t, "a--b\nc", tok(api.TokName, "a", 1, 0), tok(api.TokName, "c", 2, 5))
	scans(t, "a\n\n\tend_ -- x\r\n end", tok(api.TokName, "a", 1, 0), tok(api.TokName, "end_", 3, 4), tok(api.TokKeyword, "end", 4, 16))
	scans(t, "\r\ra", tok(api.TokName, "a", 1, 2))
	scans(t, "3..4", tok(api.TokNumber, "3", 1, 0), tok(api.TokSymbol, "..", 1, 1), tok(api.TokNumber, "4", 1, 3))
	scans(t, "1.25.x", tok(api.TokNumber, "1.25", 1, 0), tok(api.TokSymbol, ".", 1, 4), tok(api.TokName, "x", 1, 5))
	scans(t, "3.", tok(api.TokNumber, "3", 1, 0), tok(api.TokSymbol, ".", 1, 1))
	scans(t, "007", tok(api.TokNumber, "007", 1, 0))
	scans(t, "-1", tok(api.TokSymbol, "-", 1, 0), tok(api.TokNumber, "1", 1, 1))
	scans(t, "- -1", tok(api.TokSymbol, "-", 1, 0), tok(api.TokSymbol, "-", 1, 2), tok(api.TokNumber, "1", 1, 3))
	scans(t, "x9_Y", tok(api.TokName, "x9_Y", 1, 0))
	scans(t, "End", tok(api.TokName, "End", 1, 0))
	scans(t, "const close self", tok(api.TokName, "const", 1, 0), tok(api.TokName, "close", 1, 6), tok(api.TokName, "self", 1, 12))
	scans(t, "f'x'\"y\"", tok(api.TokName, "f", 1, 0), tok(api.TokString, "x", 1, 1), tok(api.TokString, "y", 1, 4))
	scans(t, "\n''", tok(api.TokString, "", 2, 1))
	scans(t, "....", tok(api.TokSymbol, "...", 1, 0), tok(api.TokSymbol, ".", 1, 3))
	scans(t, "===", tok(api.TokSymbol, "==", 1, 0), tok(api.TokSymbol, "=", 1, 2))
	scans(t, "~==", tok(api.TokSymbol, "~=", 1, 0), tok(api.TokSymbol, "=", 1, 2))
	scans(t, ":::", tok(api.TokSymbol, "::", 1, 0), tok(api.TokSymbol, ":", 1, 2))
	scans(t, "///", tok(api.TokSymbol, "//", 1, 0), tok(api.TokSymbol, "/", 1, 2))
	scans(t, "<<=>>", tok(api.TokSymbol, "<<", 1, 0), tok(api.TokSymbol, "=", 1, 2), tok(api.TokSymbol, ">>", 1, 3))
}

// TestScanOfOneToken scans each keyword and each symbol.
func TestScanOfOneToken(t *testing.T) {
	if len(keywords()) != 22 {
		t.Errorf("%d keywords", len(keywords()))
	}
	for _, k := range keywords() {
		scans(t, k, tok(api.TokKeyword, k, 1, 0))
		scans(t, "\n"+k+"s", tok(api.TokName, k+"s", 2, 1))
	}
	symbols := strings.Fields("+ - * / // % ^ # & ~ | << >> == ~= <= >= < > = ( ) { } [ ] :: ; : , . .. ...")
	if len(symbols) != 33 {
		t.Errorf("%d symbols", len(symbols))
	}
	for _, s := range symbols {
		scans(t, s, tok(api.TokSymbol, s, 1, 0))
		scans(t, "\n "+s+" ", tok(api.TokSymbol, s, 2, 2))
	}
}

func TestScanOfStrings(t *testing.T) {
	for s, want := range map[string]string{
		`"a\n\t\\\'\"b"`: "a\n\t\\'\"b", `'a\n\t\\\'\"b'`: "a\n\t\\'\"b", `"'"`: "'", `'"'`: `"`, `"\x41\xfF\x0a"`: "A\xff\n", `"\x414"`: "A4",
		`"\0"`: "\x00", `"\10"`: "\n", `"\1000"`: "d0", `"\255\2550"`: "\xff\xff0", `"\25a"`: "\x19a", `"\009"`: "\t", `"\0009"`: "\x009", `"\65\066"`: "AB",
		"'\r\t\x00\x01\xff\xc3\xa4'": "\r\t\x00\x01\xff\xc3\xa4", `"--"`: "--", `" a "`: " a ",
	} {
		scans(t, s, tok(api.TokString, want, 1, 0))
	}
}

func TestScanErrors(t *testing.T) {
	for s, want := range map[string]api.Errno{
		`"`: api.ErrForm, `'`: api.ErrForm, `"a`: api.ErrForm, `"a'`: api.ErrForm, "\"a\nb\"": api.ErrForm, `"a\`: api.ErrForm, `"\"`: api.ErrForm, "\"\\\n\"": api.ErrForm,
		`"\a"`: api.ErrForm, `"\N"`: api.ErrForm, `"\X41"`: api.ErrForm, `"\x"`: api.ErrForm, `"\x4"`: api.ErrForm, `"\x4`: api.ErrForm, `"\x`: api.ErrForm, `"\xg1"`: api.ErrForm,
		`"\x1g"`: api.ErrForm, `"\x+1"`: api.ErrForm, `"\x_1"`: api.ErrForm, `"\ "`: api.ErrForm, "\"\\\xff\"": api.ErrForm, `"\-1"`: api.ErrForm,
		`"\256"`: api.ErrRange, `"\300"`: api.ErrRange, `"\999"`: api.ErrRange, `"\2560"`: api.ErrRange, `"\256`: api.ErrRange, `"\256\q"`: api.ErrRange, `"\q\256"`: api.ErrForm,
		"1x": api.ErrForm, "1_": api.ErrForm, "12e5": api.ErrForm, "0x": api.ErrForm, "0x1G": api.ErrForm, "1.5f": api.ErrForm, "0X1_": api.ErrForm, "1end": api.ErrForm,
		"2147483648": api.ErrRange, "99999999999999999999x": api.ErrRange, "1.0000000000": api.ErrRange, "0x80000000": api.ErrRange, "0.1234567890 ": api.ErrRange,
		"!": api.ErrForm, "!=": api.ErrForm, "$": api.ErrForm, "?": api.ErrForm, "@": api.ErrForm, "`": api.ErrForm, `\`: api.ErrForm, "\x00": api.ErrForm, "\x0b": api.ErrForm,
		"\x0c": api.ErrForm, "\x7f": api.ErrForm, "\x80": api.ErrForm, "\xc3\xa4": api.ErrForm, "a\xa0b": api.ErrForm,
	} {
		fails(t, s, 1, want)
		fails(t, "a = \n-- x\n\n "+s, 4, want)
	}
	fails(t, "a\n!\n\"", 2, api.ErrForm)
	fails(t, "a !\n9999999999", 1, api.ErrForm)
	fails(t, "\n9999999999 !", 2, api.ErrRange)
}

func TestScanOfLongTexts(t *testing.T) {
	scans(t, strings.Repeat(" ", api.MaxText))
	fails(t, strings.Repeat(" ", api.MaxText+1), 1, api.ErrLimit)
	fails(t, "\n!"+strings.Repeat("\n", api.MaxText-1), 1, api.ErrLimit)
	scans(t, strings.Repeat("\n", api.MaxText-1)+"a", tok(api.TokName, "a", api.MaxText, api.MaxText-1))
	if l, _, e := lexer.Scan(strings.Repeat(";", api.MaxText)); len(l) != api.MaxText || e != api.OK {
		t.Errorf("Scan of many symbols: %d, error %d", len(l), int(e))
	}
}

func TestScanOfLongNames(t *testing.T) {
	long := strings.Repeat("n", api.MaxName)
	scans(t, " "+long+" ", tok(api.TokName, long, 1, 1))
	fails(t, long+"n", 1, api.ErrLimit)
	fails(t, long+"_", 1, api.ErrLimit)
	fails(t, "\n_"+strings.Repeat("9", api.MaxName), 2, api.ErrLimit)
	fails(t, "end"+long, 1, api.ErrLimit)
}

func TestScanOfLongStrings(t *testing.T) {
	full := strings.Repeat("s", api.MaxString)
	scans(t, "'"+full+"'", tok(api.TokString, full, 1, 0))
	scans(t, "'"+full[1:]+`\115'`, tok(api.TokString, full, 1, 0))
	scans(t, "'"+strings.Repeat(`\x73`, api.MaxString)+"'", tok(api.TokString, full, 1, 0))
	for _, more := range []string{"s'", `\115'`, `\n'`, "ss", "s", `s\q'`, `s\300'`, "s\n'", `\n`, `\n\q`} {
		fails(t, "'"+full+more, 1, api.ErrLimit)
	}
	for _, more := range []string{"", "\n'", `\q'`, `\x1'`, `\`} {
		fails(t, "\n'"+full+more, 2, api.ErrForm)
	}
	fails(t, "'"+full+`\256'`, 1, api.ErrRange)
	fails(t, "'"+full[1:]+`\256'`, 1, api.ErrRange)
	fails(t, "'"+full[1:]+`\q'`, 1, api.ErrForm)
}

func TestName(t *testing.T) {
	for _, s := range []string{"a", "_", "__index", "end_", "_end", "x9", "Z", "END", "const", "close", "self", strings.Repeat("a", api.MaxName)} {
		if !lexer.Name(s) {
			t.Errorf("Name(%q) is false", s)
		}
	}
	for _, s := range append(keywords(), "", "9", "9x", " a", "a ", "a b", "a.b", "a-b", "\xe4", "a\xe4", "a\x00", "\n", strings.Repeat("a", api.MaxName+1)) {
		if lexer.Name(s) {
			t.Errorf("Name(%q) is true", s)
		}
	}
	for c := range 256 {
		b := string([]byte{byte(c)})
		letter := strings.Contains("ABCDEFGHIJKLMNOPQRSTUVWXYZabcdefghijklmnopqrstuvwxyz_", b)
		if got := lexer.Name(b); got != letter {
			t.Errorf("Name(%q): %v", b, got)
		}
		if got := lexer.Name("x" + b); got != (letter || strings.Contains("0123456789", b)) {
			t.Errorf("Name(%q): %v", "x"+b, got)
		}
	}
}

func TestKeyword(t *testing.T) {
	for _, k := range keywords() {
		if !lexer.Keyword(k) {
			t.Errorf("Keyword(%q) is false", k)
		}
		for _, s := range []string{k + "x", k + " ", " " + k, k[1:] + "_", strings.ToUpper(k), strings.ToUpper(k[:1]) + k[1:]} {
			if lexer.Keyword(s) {
				t.Errorf("Keyword(%q) is true", s)
			}
		}
	}
	for _, s := range []string{"", "a", "self", "const", "close", "switch", "continue", "=", "..."} {
		if lexer.Keyword(s) {
			t.Errorf("Keyword(%q) is true", s)
		}
	}
}

func TestQuote(t *testing.T) {
	for s, want := range map[string]string{
		"": `""`, "a\n\xff": `"a\n\255"`, "\n\t\\\"'": `"\n\t\\\"'"`, "\x001": `"\0001"`, "\r": `"\013"`, "\x1f ~\x7f": `"\031 ~\127"`, "\x80\xc3\xa4": `"\128\195\164"`, "--": `"--"`,
	} {
		if got := lexer.Quote(s); got != want {
			t.Errorf("Quote(%q): %s, want %s", s, got, want)
		}
	}
	for c := 32; c <= 126; c++ {
		if c == '"' || c == '\\' {
			continue
		}
		if s := string([]byte{byte(c)}); lexer.Quote(s) != `"`+s+`"` {
			t.Errorf("Quote(%q): %s", s, lexer.Quote(s))
		}
	}
}

func TestJoin(t *testing.T) {
	for i, x := range []struct {
		list []api.Token
		want string
	}{
		{nil, ""},
		{[]api.Token{{}}, ""},
		{[]api.Token{{Kind: api.TokName, Text: "a"}}, "a"},
		{[]api.Token{{Kind: api.TokName, Text: "a"}, {Kind: api.TokString, Text: "b"}}, `a "b"`},
		{[]api.Token{{Kind: api.TokKeyword, Text: "if"}, {Kind: api.TokNumber, Text: "0x1F"}, {Kind: api.TokSymbol, Text: "..."}}, "if 0x1F ..."},
		{[]api.Token{{Kind: api.TokString}, {Kind: api.TokString, Text: "\n\""}}, `"" "\n\""`},
		{[]api.Token{{Text: "\n"}, {Kind: 9, Text: "x\"y"}, {Kind: -1, Text: ""}}, "\n x\"y "},
	} {
		if got := lexer.Join(x.list); got != x.want {
			t.Errorf("case %d: %q, want %q", i, got, x.want)
		}
	}
}
