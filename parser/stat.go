package parser

import (
	"strings"

	"scripting/api"
)

// block reads statements as far as there are any.
func (p *parser) block() []api.Stat {
	var b []api.Stat
	for !p.blockEnds() {
		if p.accept(";") {
			continue
		}
		s := p.statement()
		b = append(b, s)
		if s.Kind == api.SReturn {
			break
		}
	}
	return b
}

// blockEnds reports whether a block ends before the next token.
func (p *parser) blockEnds() bool {
	return p.at == len(p.tokens) || p.is("end") || p.is("else") || p.is("elseif") || p.is("until")
}

// statement reads a statement.
func (p *parser) statement() api.Stat {
	t := p.peek()
	s := api.Stat{Line: t.Line}
	if t.Kind != api.TokKeyword {
		p.simple(&s)
		return s
	}
	switch t.Text {
	case "local":
		p.local(&s)
	case "function":
		p.function(&s)
	case "do":
		s.Kind = api.SDo
		p.body(&s)
	case "while":
		p.while(&s)
	case "repeat":
		p.repeat(&s)
	case "if":
		p.condition(&s)
	case "for":
		p.loop(&s)
	case "return":
		p.result(&s)
	case "break":
		p.at++
		s.Kind = api.SBreak
	case "goto":
		p.at++
		s.Kind, s.Label = api.SGoto, p.name().Text
	default:
		p.fail()
	}
	return s
}

// simple reads a statement that begins with no keyword.
func (p *parser) simple(s *api.Stat) {
	if p.is("::") {
		p.label(s)
	} else {
		p.action(s)
	}
}

// label reads a label.
func (p *parser) label(s *api.Stat) {
	p.expect("::")
	s.Kind, s.Label = api.SLabel, p.name().Text
	p.expect("::")
}

// action reads a call or an assignment.
func (p *parser) action(s *api.Stat) {
	e, bare := p.prefix()
	if !bare && (e.Kind == api.ECall || e.Kind == api.EMethod) {
		s.Kind, s.Right = api.SCall, []api.Expr{*e}
		return
	}
	s.Kind, s.Left = api.SAssign, []api.Expr{p.leftSide(e, bare)}
	for p.accept(",") {
		s.Left = append(s.Left, p.leftSide(p.prefix()))
	}
	p.expect("=")
	s.Right = p.list()
}

// leftSide returns an expression to which a value can be assigned. If it is none, a suffix would have to follow.
func (p *parser) leftSide(e *api.Expr, bare bool) api.Expr {
	if bare || e.Kind != api.EName && e.Kind != api.EIndex {
		p.fail()
	}
	return *e
}

// local reads a declaration of local variables, or a local function.
func (p *parser) local(s *api.Stat) {
	p.at++
	if p.is("function") {
		line := p.next().Line
		name := p.name().Text
		s.Kind, s.Names = api.SFunc, []api.Local{{Name: name}}
		s.Right = []api.Expr{*p.functionBody(api.Func{Name: name, Line: line})}
		return
	}
	s.Kind, s.Names = api.SLocal, []api.Local{p.attributed()}
	for p.accept(",") {
		s.Names = append(s.Names, p.attributed())
	}
	if p.accept("=") {
		s.Right = p.list()
	}
}

// attributed reads a name, which an attribute may follow.
func (p *parser) attributed() api.Local {
	v := api.Local{Name: p.name().Text}
	if !p.accept("<") {
		return v
	}
	// The attributes are no keywords, but nothing else is a name of one.
	switch {
	case p.accept("const"):
		v.Attr = api.Const
	case p.accept("close"):
		v.Attr = api.Close
	default:
		p.fail()
	}
	p.expect(">")
	return v
}

// function reads a function statement.
func (p *parser) function(s *api.Stat) {
	f := api.Func{Line: p.next().Line}
	left, text := p.functionName()
	f.Name = text
	if strings.Contains(text, ":") {
		f.Params = []string{"self"}
	}
	s.Kind, s.Left, s.Right = api.SAssign, []api.Expr{*left}, []api.Expr{*p.functionBody(f)}
}

// functionName reads the name of a function statement, and returns the left side and its text.
func (p *parser) functionName() (*api.Expr, string) {
	left := p.variable()
	var text strings.Builder
	text.WriteString(left.Str)
	for method := false; !method && (p.is(".") || p.is(":")); {
		sign := p.next()
		method = sign.Text == ":"
		key := p.key()
		left = &api.Expr{Kind: api.EIndex, Line: sign.Line, Args: []api.Expr{*left, *key}}
		text.WriteString(sign.Text)
		text.WriteString(key.Str)
	}
	return left, text.String()
}

// body reads a word and a block with its end: the last part of a statement.
func (p *parser) body(s *api.Stat) {
	p.expect("do")
	s.Blocks = [][]api.Stat{p.block()}
	p.expect("end")
}

// while reads a loop with its condition at the beginning.
func (p *parser) while(s *api.Stat) {
	p.at++
	s.Kind, s.Right = api.SWhile, []api.Expr{*p.expr(0)}
	p.body(s)
}

// repeat reads a loop with its condition at the end.
func (p *parser) repeat(s *api.Stat) {
	p.at++
	s.Kind, s.Blocks = api.SRepeat, [][]api.Stat{p.block()}
	p.expect("until")
	s.Right = []api.Expr{*p.expr(0)}
}

// condition reads conditions with their blocks.
func (p *parser) condition(s *api.Stat) {
	s.Kind = api.SIf
	for first := true; first || p.is("elseif"); first = false {
		p.at++
		s.Right = append(s.Right, *p.expr(0))
		p.expect("then")
		s.Blocks = append(s.Blocks, p.block())
	}
	if p.accept("else") {
		s.Blocks = append(s.Blocks, p.block())
	}
	p.expect("end")
}

// loop reads a numeric or generic loop.
func (p *parser) loop(s *api.Stat) {
	p.at++
	s.Names = []api.Local{{Name: p.name().Text}}
	if p.accept("=") {
		s.Kind, s.Right = api.SNum, []api.Expr{*p.expr(0)}
		p.expect(",")
		s.Right = append(s.Right, *p.expr(0))
		if p.accept(",") {
			s.Right = append(s.Right, *p.expr(0))
		}
	} else {
		s.Kind = api.SFor
		for p.accept(",") {
			s.Names = append(s.Names, api.Local{Name: p.name().Text})
		}
		p.expect("in")
		s.Right = p.list()
	}
	p.body(s)
}

// result reads a return statement.
func (p *parser) result(s *api.Stat) {
	p.at++
	s.Kind = api.SReturn
	if !p.blockEnds() && !p.is(";") {
		s.Right = p.list()
	}
	p.accept(";")
}
