package parser

import (
	"scripting/api"
	"scripting/numeral"
	"scripting/tree"
)

// The functions of this file return pointers, so that their frames are small: brackets may be nested as deeply as
// the text is long.

// operator is a binary operator: its text, the kind and the Op of its expression, its level from the loosest
// one on, and the level above which the operators of its right operand are.
type operator struct {
	text         string
	kind, op     int
	level, right int
}

// binary has the binary operators but ^, which binds tighter than the unary ones. The first row is no operator.
var binary = [...]operator{
	{},
	{"or", api.EOr, 0, 1, 1},
	{"and", api.EAnd, 0, 2, 2},
	{"<", api.EBinary, api.OpLt, 3, 3},
	{">", api.EBinary, api.OpGt, 3, 3},
	{"<=", api.EBinary, api.OpLe, 3, 3},
	{">=", api.EBinary, api.OpGe, 3, 3},
	{"~=", api.EBinary, api.OpNe, 3, 3},
	{"==", api.EBinary, api.OpEq, 3, 3},
	{"|", api.EBinary, api.OpOr, 4, 4},
	{"~", api.EBinary, api.OpXor, 5, 5},
	{"&", api.EBinary, api.OpAnd, 6, 6},
	{"<<", api.EBinary, api.OpShl, 7, 7},
	{">>", api.EBinary, api.OpShr, 7, 7},
	{"..", api.EBinary, api.OpConcat, 8, 7},
	{"+", api.EBinary, api.OpAdd, 9, 9},
	{"-", api.EBinary, api.OpSub, 9, 9},
	{"*", api.EBinary, api.OpMul, 10, 10},
	{"/", api.EBinary, api.OpDiv, 10, 10},
	{"//", api.EBinary, api.OpQuot, 10, 10},
	{"%", api.EBinary, api.OpMod, 10, 10},
}

// operator returns the row of the binary operator that is the next token, or 0.
func (p *parser) operator() int {
	for i := len(binary) - 1; i > 0; i-- {
		if p.is(binary[i].text) {
			return i
		}
	}
	return 0
}

// list reads one or more expressions.
func (p *parser) list() []api.Expr {
	l := []api.Expr{*p.expr(0)}
	for p.accept(",") {
		l = append(l, *p.expr(0))
	}
	return l
}

// expr reads an expression whose operators are above a level.
func (p *parser) expr(level int) *api.Expr {
	e := p.unary()
	for {
		i := p.operator()
		if binary[i].level <= level {
			return e
		}
		line := p.next().Line
		right := p.expr(binary[i].right)
		e = &api.Expr{Kind: binary[i].kind, Op: binary[i].op, Line: line, Args: []api.Expr{*e, *right}}
	}
}

// unary reads an expression whose operators are unary ones and ^.
func (p *parser) unary() *api.Expr {
	op := p.unaryOp()
	if op == 0 {
		return p.power()
	}
	line := p.next().Line
	return &api.Expr{Kind: api.EUnary, Op: op, Line: line, Args: []api.Expr{*p.unary()}}
}

// unaryOp returns the unary operator that is the next token, or 0.
func (p *parser) unaryOp() int {
	switch {
	case p.is("-"):
		return api.OpNeg
	case p.is("not"):
		return api.OpNot
	case p.is("#"):
		return api.OpLen
	case p.is("~"):
		return api.OpBnot
	}
	return 0
}

// power reads a primary expression, which may have an exponent.
func (p *parser) power() *api.Expr {
	e := p.primary()
	if !p.is("^") {
		return e
	}
	line := p.next().Line
	return &api.Expr{Kind: api.EBinary, Op: api.OpPow, Line: line, Args: []api.Expr{*e, *p.unary()}}
}

// primary reads an expression without operators outside of brackets.
func (p *parser) primary() *api.Expr {
	switch {
	case p.peek().Kind == api.TokNumber:
		return p.number()
	case p.peek().Kind == api.TokString:
		return p.text()
	case p.is("nil"):
		return p.constant(api.ENil)
	case p.is("true"):
		return p.constant(api.ETrue)
	case p.is("false"):
		return p.constant(api.EFalse)
	case p.is("..."):
		return p.constant(api.EVararg)
	case p.is("{"):
		return p.table()
	case p.is("function"):
		return p.functionBody(api.Func{Line: p.next().Line})
	}
	e, _ := p.prefix()
	return e
}

// constant reads an expression that is one keyword or symbol.
func (p *parser) constant(kind int) *api.Expr {
	return &api.Expr{Kind: kind, Line: p.next().Line}
}

// number reads a numeral.
func (p *parser) number() *api.Expr {
	t := p.next()
	n, _, e := numeral.Scan(t.Text, 0)
	require(e, t.Line)
	return &api.Expr{Kind: api.ENumber, Line: t.Line, Num: n}
}

// text reads a string.
func (p *parser) text() *api.Expr {
	t := p.next()
	return &api.Expr{Kind: api.EString, Line: t.Line, Str: t.Text}
}

// variable reads a name that stands for a variable.
func (p *parser) variable() *api.Expr {
	t := p.name()
	return &api.Expr{Kind: api.EName, Line: t.Line, Str: t.Text}
}

// key reads a name that stands for a string.
func (p *parser) key() *api.Expr {
	t := p.name()
	return &api.Expr{Kind: api.EString, Line: t.Line, Str: t.Text}
}

// functionBody reads the rest of a function, of which the beginning is known.
func (p *parser) functionBody(f api.Func) *api.Expr {
	p.params(&f)
	f.Body = p.block()
	p.expect("end")
	return &api.Expr{Kind: api.EFunc, Line: f.Line, Funcs: []api.Func{f}}
}

// params reads the parameters of a function.
func (p *parser) params(f *api.Func) {
	p.expect("(")
	if p.accept(")") {
		return
	}
	for more := true; more; {
		if p.accept("...") {
			f.Vararg = true
			break
		}
		f.Params = append(f.Params, p.name().Text)
		more = p.accept(",")
	}
	p.expect(")")
}

// prefix reads a name or an expression in brackets, with all suffixes, and reports whether it is bare: an
// expression in brackets without a suffix.
func (p *parser) prefix() (e *api.Expr, bare bool) {
	if p.is("(") {
		e, bare = p.bracketed(), true
	} else {
		e = p.variable()
	}
	for p.suffixBegins() {
		e, bare = p.suffix(e), false
	}
	return e, bare
}

// bracketed reads an expression in brackets.
func (p *parser) bracketed() *api.Expr {
	line := p.expect("(")
	e := p.expr(0)
	p.expect(")")
	if tree.Multi(*e) {
		return &api.Expr{Kind: api.EParen, Line: line, Args: []api.Expr{*e}}
	}
	return e
}

// suffixBegins reports whether the next token begins a suffix.
func (p *parser) suffixBegins() bool {
	return p.is(".") || p.is("[") || p.is(":") || p.argumentsBegin()
}

// suffix reads a suffix of an expression.
func (p *parser) suffix(e *api.Expr) *api.Expr {
	line := p.peek().Line
	switch {
	case p.accept("."):
		return &api.Expr{Kind: api.EIndex, Line: line, Args: []api.Expr{*e, *p.key()}}
	case p.accept("["):
		key := p.expr(0)
		p.expect("]")
		return &api.Expr{Kind: api.EIndex, Line: line, Args: []api.Expr{*e, *key}}
	case p.accept(":"):
		name := p.name().Text
		line = p.peek().Line
		return &api.Expr{Kind: api.EMethod, Line: line, Str: name, Args: p.arguments(e)}
	}
	return &api.Expr{Kind: api.ECall, Line: line, Args: p.arguments(e)}
}

// argumentsBegin reports whether the next token begins the arguments of a call.
func (p *parser) argumentsBegin() bool {
	return p.is("(") || p.is("{") || p.peek().Kind == api.TokString
}

// arguments reads the arguments of a call, and returns them behind what is called.
func (p *parser) arguments(called *api.Expr) []api.Expr {
	switch {
	case p.peek().Kind == api.TokString:
		return []api.Expr{*called, *p.text()}
	case p.is("{"):
		return []api.Expr{*called, *p.table()}
	}
	p.expect("(")
	l := []api.Expr{*called}
	if !p.is(")") {
		l = append(l, p.list()...)
	}
	p.expect(")")
	return l
}

// table reads a table.
func (p *parser) table() *api.Expr {
	e := &api.Expr{Kind: api.ETable, Line: p.expect("{")}
	for !p.is("}") {
		e.Args = append(e.Args, *p.field())
		if !p.accept(",") && !p.accept(";") {
			break
		}
	}
	p.expect("}")
	return e
}

// field reads an item of a table.
func (p *parser) field() *api.Expr {
	line := p.peek().Line
	var key *api.Expr
	switch {
	case p.accept("["):
		key = p.expr(0)
		p.expect("]")
	case p.pairBegins():
		key = p.key()
	default:
		return &api.Expr{Kind: api.EItem, Line: line, Args: []api.Expr{*p.expr(0)}}
	}
	p.expect("=")
	return &api.Expr{Kind: api.EPair, Line: line, Args: []api.Expr{*key, *p.expr(0)}}
}

// pairBegins reports whether the next tokens are a name and =.
func (p *parser) pairBegins() bool {
	return p.peek().Kind == api.TokName && p.at+1 < len(p.tokens) && written(p.tokens[p.at+1], "=")
}
