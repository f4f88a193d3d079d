package parser_test

import (
	"strings"

	"scripting/api"
	"scripting/lexer"
)

// writer writes the text of a tree with blanks by chance, and sets the lines of the tree to those of the text.
type writer struct {
	chance *chance
	text   strings.Builder
	breaks bool  // whether there are line feeds
	line   int   // the line of the next token
	open   bool  // whether the last token ends what can be called
	first  *int  // the Line of a statement of which no token has been written
	tokens []int // the lines of all tokens
}

// newWriter returns a writer of a text.
func newWriter(c *chance, breaks bool) *writer { return &writer{chance: c, breaks: breaks, line: 1} }

// put writes a token and what follows it, and returns its line. A bracket at the beginning of a statement would
// continue what can be called.
func (w *writer) put(s string) int {
	if w.first != nil {
		first := w.first
		w.first = nil
		if s == "(" && w.open || w.chance.below(8) == 0 {
			w.put(";")
		}
		*first = w.line
	}
	line := w.line
	w.tokens = append(w.tokens, line)
	w.text.WriteString(s)
	w.blanks()
	w.open = false
	return line
}

// blanks writes what is between two tokens.
func (w *writer) blanks() {
	if !w.breaks {
		w.text.WriteString([]string{" ", "\t", "  ", "\r"}[w.chance.below(4)])
		return
	}
	s := []string{" ", "\t", "\n", " \r\n", " -- remark ( end\n", "\n\n\t", " --\n--'\n ", "  "}[w.chance.below(8)]
	w.text.WriteString(s)
	w.line += strings.Count(s, "\n")
}

// puts writes tokens that are separated by spaces, and returns the line of the last one.
func (w *writer) puts(s string) int {
	line := 0
	for _, x := range strings.Fields(s) {
		line = w.put(x)
	}
	return line
}

// commas writes a comma before each element of a list but the first one.
func (w *writer) commas(i int) {
	if i > 0 {
		w.put(",")
	}
}

func (w *writer) block(b []api.Stat) {
	for i := range b {
		w.first = &b[i].Line
		w.stat(&b[i])
	}
	if n := len(b); (n == 0 || b[n-1].Kind != api.SReturn) && w.chance.below(8) == 0 {
		w.puts("; ;")
	}
}

// blockEnd writes a block and the word end.
func (w *writer) blockEnd(b []api.Stat) {
	w.block(b)
	w.put("end")
}

func (w *writer) exprs(l []api.Expr) {
	for i := range l {
		w.commas(i)
		w.expr(&l[i], 0)
	}
}

func (w *writer) names(l []api.Local) {
	for i, x := range l {
		w.commas(i)
		w.put(x.Name)
		switch x.Attr {
		case api.Const:
			w.puts("< const >")
		case api.Close:
			w.puts("< close >")
		}
	}
}

func (w *writer) stat(s *api.Stat) {
	switch s.Kind {
	case api.SLocal:
		w.put("local")
		w.names(s.Names)
		if len(s.Right) > 0 {
			w.put("=")
			w.exprs(s.Right)
		}
	case api.SFunc:
		w.put("local")
		s.Right[0].Line = w.puts("function")
		w.put(s.Names[0].Name)
		w.function(&s.Right[0], 0)
	case api.SAssign:
		w.assign(s)
	case api.SCall:
		w.expr(&s.Right[0], 0)
	case api.SDo:
		w.put("do")
		w.blockEnd(s.Blocks[0])
	case api.SWhile:
		w.put("while")
		w.expr(&s.Right[0], 0)
		w.put("do")
		w.blockEnd(s.Blocks[0])
	case api.SRepeat:
		w.put("repeat")
		w.block(s.Blocks[0])
		w.put("until")
		w.expr(&s.Right[0], 0)
	case api.SIf:
		w.choice(s)
	case api.SNum, api.SFor:
		w.put("for")
		w.names(s.Names)
		w.put(map[int]string{api.SNum: "=", api.SFor: "in"}[s.Kind])
		w.exprs(s.Right)
		w.put("do")
		w.blockEnd(s.Blocks[0])
	case api.SReturn:
		w.put("return")
		w.exprs(s.Right)
		if w.chance.below(3) == 0 {
			w.put(";")
		}
	case api.SBreak:
		w.put("break")
	case api.SGoto:
		w.puts("goto " + s.Label)
	case api.SLabel:
		w.puts(":: " + s.Label + " ::")
	}
}

func (w *writer) choice(s *api.Stat) {
	for i := range s.Right {
		w.put([]string{"if", "elseif"}[min(i, 1)])
		w.expr(&s.Right[i], 0)
		w.put("then")
		w.block(s.Blocks[i])
	}
	if len(s.Blocks) > len(s.Right) {
		w.put("else")
		w.block(s.Blocks[len(s.Right)])
	}
	w.put("end")
}

func (w *writer) assign(s *api.Stat) {
	if r := &s.Right[0]; r.Kind == api.EFunc && r.Funcs[0].Name != "" {
		r.Line = w.put("function")
		w.functionName(&s.Left[0], strings.Contains(r.Funcs[0].Name, ":"))
		w.function(r, strings.Count(r.Funcs[0].Name, ":"))
		return
	}
	for i := range s.Left {
		w.commas(i)
		w.expr(&s.Left[i], left)
	}
	w.put("=")
	w.exprs(s.Right)
}

// functionName writes the name of a function statement.
func (w *writer) functionName(e *api.Expr, method bool) {
	if e.Kind == api.EName {
		e.Line = w.put(e.Str)
		return
	}
	w.functionName(&e.Args[0], false)
	e.Line = w.put(map[bool]string{false: ".", true: ":"}[method])
	e.Args[1].Line = w.put(e.Args[1].Str)
}

// function writes a function from its parameters on, without the first ones.
func (w *writer) function(e *api.Expr, skipped int) {
	f := &e.Funcs[0]
	f.Line = e.Line
	w.put("(")
	params := f.Params[skipped:]
	if f.Vararg {
		params = append(params[:len(params):len(params)], "...")
	}
	for i, x := range params {
		w.commas(i)
		w.put(x)
	}
	w.put(")")
	w.blockEnd(f.Body)
}

// These are the levels of operands beyond those of binary operators: unary, the left operand of ^, what can be
// called, and the left side of an assignment or a call.
const (
	unary = iota + 11
	power
	primary
	prefix
	left
)

// signs has the operators by Op.
var signs = [...]string{
	api.OpAdd: "+", api.OpSub: "-", api.OpMul: "*", api.OpDiv: "/", api.OpQuot: "//", api.OpMod: "%", api.OpPow: "^", api.OpConcat: "..",
	api.OpAnd: "&", api.OpOr: "|", api.OpXor: "~", api.OpShl: "<<", api.OpShr: ">>", api.OpEq: "==", api.OpNe: "~=", api.OpLt: "<",
	api.OpLe: "<=", api.OpGt: ">", api.OpGe: ">=", api.OpNeg: "-", api.OpNot: "not", api.OpLen: "#", api.OpBnot: "~",
}

// level returns the level of an expression: the place of its operator in the table of the document, from 1 on.
func level(e *api.Expr) int {
	sign := signs[e.Op]
	switch e.Kind {
	case api.EOr:
		sign = "or"
	case api.EAnd:
		sign = "and"
	case api.EUnary:
		return unary
	case api.EName, api.EIndex, api.ECall, api.EMethod, api.EParen:
		return left
	}
	for i, row := range levels {
		for _, x := range strings.Fields(row) {
			if x == sign && x == "^" {
				return power
			}
			if x == sign {
				return i + 1
			}
		}
	}
	return primary
}

// expr writes an expression that has at least a level, or is in brackets.
func (w *writer) expr(e *api.Expr, least int) {
	multi := e.Kind == api.ECall || e.Kind == api.EMethod || e.Kind == api.EVararg
	if level(e) < least || !multi && least < left && w.chance.below(8) == 0 {
		w.put("(")
		w.expr(e, 0)
		w.put(")")
		w.open = true
		return
	}
	switch e.Kind {
	case api.EUnary:
		e.Line = w.put(signs[e.Op])
		w.expr(&e.Args[0], unary)
	case api.EBinary, api.EAnd, api.EOr:
		w.binary(e)
	case api.EIndex, api.ECall, api.EMethod, api.EParen:
		w.suffixed(e)
	case api.EFunc:
		e.Line = w.put("function")
		w.function(e, 0)
	case api.ETable:
		w.table(e)
	default:
		e.Line = w.put(w.leaf(e))
		w.open = e.Kind == api.EName
	}
}

// leaf returns the text of an expression that is one token.
func (w *writer) leaf(e *api.Expr) string {
	switch e.Kind {
	case api.ENumber:
		for _, x := range numbers {
			if x.num == e.Num && (x.last || w.chance.below(2) == 0) {
				return x.text
			}
		}
	case api.EString:
		if w.chance.below(2) == 0 && !strings.ContainsAny(e.Str, "'\\\n") {
			return "'" + e.Str + "'"
		}
		return lexer.Quote(e.Str)
	case api.EName:
		return e.Str
	}
	return exprWords[e.Kind]
}

// numbers has numerals; the last one of each number is marked.
var numbers = []struct {
	text string
	num  api.Num
	last bool
}{
	{"00", api.Num{P: 0, Q: 1}, false}, {"0", api.Num{P: 0, Q: 1}, true}, {"0x1F", api.Num{P: 31, Q: 1}, false}, {"31.0", api.Num{P: 31, Q: 1}, false},
	{"31", api.Num{P: 31, Q: 1}, true}, {"1.25", api.Num{P: 5, Q: 4}, true}, {"2147483647", api.Num{P: 1<<31 - 1, Q: 1}, true},
	{"0.000000001", api.Num{P: 1, Q: 1000000000}, true}, {"1", api.Num{P: 1, Q: 1}, true},
}

func (w *writer) binary(e *api.Expr) {
	own := level(e)
	least, most := own, own+1
	switch {
	case e.Kind == api.EBinary && e.Op == api.OpConcat:
		least, most = own+1, own
	case e.Kind == api.EBinary && e.Op == api.OpPow:
		least, most = primary, unary
	}
	w.expr(&e.Args[0], least)
	sign := signs[e.Op]
	switch e.Kind {
	case api.EAnd:
		sign = "and"
	case api.EOr:
		sign = "or"
	}
	e.Line = w.put(sign)
	w.expr(&e.Args[1], most)
}

// suffixed writes an expression that can be called or indexed.
func (w *writer) suffixed(e *api.Expr) {
	if e.Kind == api.EParen {
		w.paren(e)
		w.open = true
		return
	}
	w.expr(&e.Args[0], prefix)
	switch e.Kind {
	case api.EIndex:
		w.key(e)
	case api.EMethod:
		w.puts(": " + e.Str)
		e.Line = w.args(e.Args[1:])
	default:
		e.Line = w.args(e.Args[1:])
	}
	w.open = true
}

// paren writes brackets, often more than once: the innermost ones have the line.
func (w *writer) paren(e *api.Expr) {
	n := 1 + w.chance.below(3)*w.chance.below(2)
	for range n {
		e.Line = w.put("(")
	}
	w.expr(&e.Args[0], 0)
	for range n {
		w.put(")")
	}
}

// key writes the key of an index.
func (w *writer) key(e *api.Expr) {
	key := &e.Args[1]
	if key.Kind == api.EString && lexer.Name(key.Str) && w.chance.below(4) > 0 {
		e.Line = w.put(".")
		key.Line = w.put(key.Str)
		return
	}
	e.Line = w.put("[")
	w.expr(key, 0)
	w.put("]")
}

// args writes the arguments of a call, and returns the line in which they begin.
func (w *writer) args(l []api.Expr) int {
	line := w.line
	if len(l) == 1 && (l[0].Kind == api.EString || l[0].Kind == api.ETable) && w.chance.below(2) == 0 {
		if l[0].Kind == api.ETable {
			w.table(&l[0])
		} else {
			l[0].Line = w.put(w.leaf(&l[0]))
		}
		return line
	}
	w.put("(")
	w.exprs(l)
	w.put(")")
	return line
}

func (w *writer) table(e *api.Expr) {
	e.Line = w.put("{")
	separator := func() { w.put([]string{",", ";"}[w.chance.below(2)]) }
	for i := range e.Args {
		if i > 0 {
			separator()
		}
		w.field(&e.Args[i])
	}
	if len(e.Args) > 0 && w.chance.below(4) == 0 {
		separator()
	}
	w.put("}")
}

func (w *writer) field(e *api.Expr) {
	e.Line = w.line
	if e.Kind == api.EItem {
		w.expr(&e.Args[0], 0)
		return
	}
	if key := &e.Args[0]; key.Kind == api.EString && lexer.Name(key.Str) && w.chance.below(4) > 0 {
		key.Line = w.put(key.Str)
	} else {
		w.put("[")
		w.expr(key, 0)
		w.put("]")
	}
	w.put("=")
	w.expr(&e.Args[1], 0)
}
