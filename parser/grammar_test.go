package parser_test

import (
	"slices"
	"strings"
	"testing"

	"scripting/api"
	"scripting/parser"
	"scripting/tree"
)

// grammar is that of DOC.md, without options and repetitions: a line for each symbol, with its rules. Operators
// have no levels here, because these do not matter for the question whether a token can follow.
const grammar = `
chunk = stats | stats ret
stats = | stats stat
ret = return | return ; | return explist | return explist ;
stat = ; | local attnames | local attnames = explist | local function NAME funcbody
stat = function dotted funcbody | function dotted : NAME funcbody | do chunk end | while exp do chunk end
stat = repeat chunk until exp | if exp then chunk elseifs end | if exp then chunk elseifs else chunk end
stat = for NAME = exp , exp do chunk end | for NAME = exp , exp , exp do chunk end | for names in explist do chunk end
stat = break | goto NAME | :: NAME :: | varlist = explist | call
elseifs = | elseifs elseif exp then chunk
attnames = attname | attnames , attname
attname = NAME | NAME < const > | NAME < close >
dotted = NAME | dotted . NAME
names = NAME | names , NAME
funcbody = ( ) chunk end | ( names ) chunk end | ( names , ... ) chunk end | ( ... ) chunk end
varlist = var | varlist , var
var = NAME | prefix . NAME | prefix [ exp ]
call = prefix args | prefix : NAME args
prefix = NAME | ( exp ) | prefix . NAME | prefix [ exp ] | prefix args | prefix : NAME args
args = ( ) | ( explist ) | table | STRING
explist = exp | explist , exp
exp = operand | exp binary operand
operand = primary | unary operand
primary = nil | true | false | NUMERAL | STRING | ... | function funcbody | table | prefix
table = { } | { fields } | { fields separator }
fields = field | fields separator field
separator = , | ;
field = [ exp ] = exp | NAME = exp | exp
unary = not | # | - | ~
binary = or | and | < | > | <= | >= | ~= | == | bar | ~ | & | << | >> | .. | + | - | * | / | // | % | ^
`

// rule is a rule of the grammar.
type rule struct {
	symbol string
	parts  []string
}

// item is a rule of which some parts have been read, from the token with the number origin on.
type item struct{ rule, dot, origin int }

// recognizer has the rules of the grammar by symbol; sets[i] has what can have been read after i tokens (the
// method of Earley).
type recognizer struct {
	start string
	rules []rule
	of    map[string][]int
	empty map[string]bool
	sets  [][]item
}

// recognize returns a recognizer of the texts of a symbol.
func recognize(start string) *recognizer {
	g := &recognizer{start: start, of: map[string][]int{}, empty: map[string]bool{"stats": true, "chunk": true, "elseifs": true}}
	for _, line := range strings.Split(strings.TrimSpace(grammar), "\n") {
		symbol, text, _ := strings.Cut(line, " =")
		for _, parts := range strings.Split(text, " |") {
			g.of[symbol] = append(g.of[symbol], len(g.rules))
			g.rules = append(g.rules, rule{symbol, strings.Fields(parts)})
		}
	}
	var items []item
	for _, r := range g.of[start] {
		items = append(items, item{rule: r})
	}
	g.sets = [][]item{g.closure(items, 0)}
	return g
}

// next returns the symbol that has to be read next, or nothing.
func (g *recognizer) next(x item) string {
	parts := g.rules[x.rule].parts
	if x.dot == len(parts) {
		return ""
	}
	return parts[x.dot]
}

// closure adds what follows from the items of a set.
func (g *recognizer) closure(items []item, at int) []item {
	has := map[item]bool{}
	for _, x := range items {
		has[x] = true
	}
	add := func(x item) {
		if !has[x] {
			has[x] = true
			items = append(items, x)
		}
	}
	for i := 0; i < len(items); i++ {
		x := items[i]
		symbol := g.next(x)
		for _, r := range g.of[symbol] {
			add(item{rule: r, origin: at})
		}
		if g.empty[symbol] {
			add(item{x.rule, x.dot + 1, x.origin})
		}
		if symbol != "" || x.origin == at {
			continue
		}
		for _, y := range g.sets[x.origin] {
			if g.next(y) == g.rules[x.rule].symbol {
				add(item{y.rule, y.dot + 1, y.origin})
			}
		}
	}
	return items
}

// matches reports whether a token is what a rule has.
func matches(part string, t api.Token) bool {
	switch part {
	case "NAME":
		return t.Kind == api.TokName
	case "NUMERAL":
		return t.Kind == api.TokNumber
	case "STRING":
		return t.Kind == api.TokString
	case "bar":
		part = "|"
	}
	return t.Kind != api.TokString && t.Text == part
}

// after returns the items after one more token. A prefix that can be continued by a bracket is continued, so that
// no statement begins there.
func (g *recognizer) after(t api.Token) []item {
	last := g.sets[len(g.sets)-1]
	greedy := t.Text == "(" && slices.ContainsFunc(last, func(x item) bool { return g.next(x) == "" && g.rules[x.rule].symbol == "prefix" })
	var items []item
	for _, x := range last {
		if !matches(g.next(x), t) {
			continue
		}
		if begins := g.rules[x.rule].symbol == "prefix" && x.dot == 0; !greedy || !begins {
			items = append(items, item{x.rule, x.dot + 1, x.origin})
		}
	}
	return items
}

// read reads a token, and reports whether it can follow.
func (g *recognizer) read(t api.Token) bool {
	items := g.after(t)
	if len(items) > 0 {
		g.sets = append(g.sets, g.closure(items, len(g.sets)))
	}
	return len(items) > 0
}

// complete reports whether the tokens are a whole text.
func (g *recognizer) complete() bool {
	return slices.ContainsFunc(g.sets[len(g.sets)-1], func(x item) bool {
		return g.next(x) == "" && x.origin == 0 && g.rules[x.rule].symbol == g.start
	})
}

// alphabet has the tokens of which texts are made.
var alphabet = allTokens()

func allTokens() []api.Token {
	var l []api.Token
	for _, x := range []struct {
		kind  int
		texts string
	}{
		{api.TokKeyword, "and break do else elseif end false for function goto if in local nil not or repeat return then true until while"},
		{api.TokSymbol, "+ - * / // % ^ # & ~ | << >> == ~= <= >= < > = ( ) { } [ ] :: ; : , . .. ..."},
		{api.TokName, "a const close"},
		{api.TokNumber, "1"},
		{api.TokString, "s ( end const"},
	} {
		for _, s := range strings.Fields(x.texts) {
			l = append(l, api.Token{Kind: x.kind, Text: s})
		}
	}
	return l
}

// write returns the text of a token in a line of its own.
func write(t api.Token) string {
	if t.Kind == api.TokString {
		return "'" + t.Text + "'\n"
	}
	return t.Text + "\n"
}

// agrees checks the result for a text of so many tokens, each in a line of its own, of which all, or all but the
// last one, can follow one another.
func agrees(t *testing.T, g *recognizer, text string, tokens int, follows, complete bool) {
	t.Helper()
	var line int
	var e, form api.Errno
	if g.start == "chunk" {
		var b []api.Stat
		b, line, e = parser.Chunk(text)
		form = tree.Check(b)
	} else {
		var x api.Expr
		x, line, e = parser.Expr(text)
		form = tree.Expr(x)
	}
	switch {
	case follows && complete:
		if line != 0 || e != api.OK || form != api.OK {
			t.Fatalf("%q, a text of %s: line %d, error %d, form %d", text, g.start, line, int(e), int(form))
		}
	case line != max(tokens, 1) || e != api.ErrForm:
		t.Fatalf("%q, no text of %s: line %d, error %d; want line %d", text, g.start, line, int(e), tokens)
	}
}

// search tries all texts that begin with a text and have up to so many tokens more, as far as all of them but the
// last one can follow.
func search(t *testing.T, g *recognizer, text string, more int) {
	n := len(g.sets) - 1
	agrees(t, g, text, n, true, g.complete())
	if more == 0 {
		return
	}
	for _, x := range alphabet {
		follows := g.read(x)
		if follows {
			search(t, g, text+write(x), more-1)
		} else {
			agrees(t, g, text+write(x), n+1, false, false)
		}
		g.sets = g.sets[:n+1]
	}
}

func TestAllShortTexts(t *testing.T) {
	search(t, recognize("chunk"), "", 3)
	search(t, recognize("exp"), "", 3)
}

// TestAllContinuations tries all pairs of tokens after the beginnings of statements and expressions.
func TestAllContinuations(t *testing.T) {
	for _, s := range []string{
		"local a <", "local a < const >", "local a = 1", "local function a (", "local function a ( a", "local function a ( ... )", "function a . a :",
		"function a . a", "function a : a ( )", "a . a", "a [ 1 ]", "a : a", "a : a (", "a , a", "a , a =", "a ( )", "a {", "a { 1", "a { a",
		"a { [ 1 ]", "a { a = 1", "a { a = a", "( a )", "( a ) .", "( a ( )", "( ( a ) )", "while a", "while a do", "repeat a ( ) until", "repeat until a",
		"if a then", "if a then else", "if a then elseif", "if a then elseif a then", "for a", "for a ,", "for a = 1 ,", "for a = 1 , 2",
		"for a = 1 , 2 , 3", "for a , a in", "for a in a", "for a in a do", ":: a", "goto a", "break", "return", "return 1", "return a", "return 1 ;",
		"do return", "do return ;", "do return 1", "a = a", "a = 's'", "a = { }", "a = ...", "a = function ( ) end", "a = - a", "a = 1 +", "a = not", "a = ( a )",
		"a = ( ... )", "a = ( a ( ) )", "a = 1 ,", "a = 1 ..", "a = function (", "a = function ( a ,", "a = function ( ) return", "a = { 1 ;", "a = { 1 , a",
		"do end", "; ;", "a 's'", "a . a 's' :", "a ( a", "a ( 1 ,", "a = a [", "a = a . a", "a = a : a",
	} {
		g, text := recognize("chunk"), ""
		for _, w := range strings.Fields(s) {
			x := token(w)
			if !g.read(x) {
				t.Fatalf("%s of %s cannot follow", w, s)
			}
			text += write(x)
		}
		search(t, g, text, 2)
	}
}

// token returns a token of the alphabet.
func token(text string) api.Token {
	if len(text) > 1 && text[0] == '\'' {
		return api.Token{Kind: api.TokString, Text: text[1 : len(text)-1]}
	}
	kind := api.TokName
	for _, x := range alphabet {
		if x.Text == text && x.Kind != api.TokString {
			return x
		}
	}
	if text[0] <= '9' {
		kind = api.TokNumber
	}
	return api.Token{Kind: kind, Text: text}
}

// chance is a sequence of numbers that look as if they were random, the same ones in each run.
type chance uint64

// below returns a number from 0 to n - 1.
func (c *chance) below(n int) int {
	*c = *c*6364136223846793005 + 1442695040888963407
	return int(uint64(*c) >> 33 % uint64(n))
}

// TestWalks goes on with tokens by chance, and tries all tokens after each one. What follows the first token that
// cannot follow does not matter.
func TestWalks(t *testing.T) {
	c, whole := chance(3), 0
	for _, start := range []string{"chunk", "exp"} {
		for range 150 {
			g, text := recognize(start), ""
			for length := 1 + c.below(40); len(g.sets) <= length; {
				n := len(g.sets) - 1
				agrees(t, g, text, n, true, g.complete())
				if g.complete() {
					whole++
				}
				var fitting []api.Token
				for _, x := range alphabet {
					if len(g.after(x)) > 0 {
						fitting = append(fitting, x)
						continue
					}
					agrees(t, g, text+write(x), n+1, false, false)
					if c.below(8) == 0 {
						y, z := alphabet[c.below(len(alphabet))], alphabet[c.below(len(alphabet))]
						agrees(t, g, text+write(x)+write(y)+write(z), n+1, false, false)
					}
				}
				if len(fitting) == 0 {
					break
				}
				x := choose(&c, fitting, n)
				g.read(x)
				text += write(x)
			}
		}
	}
	if whole < 300 {
		t.Errorf("only %d texts are whole", whole)
	}
}

// choose returns a token by chance; the longer the text is, the rather it is one that ends something.
func choose(c *chance, l []api.Token, length int) api.Token {
	if c.below(60) < length {
		for _, end := range strings.Fields("end ) ] } then do until") {
			for _, x := range l {
				if x.Text == end && x.Kind != api.TokString {
					return x
				}
			}
		}
	}
	return l[c.below(len(l))]
}
