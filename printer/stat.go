package printer

import (
	"strings"

	"scripting/api"
)

// block writes statements.
func (w *writer) block(b []api.Stat) {
	for i := range b {
		if w.full() {
			return
		}
		w.indent()
		w.stat(&b[i])
		w.put("\n")
	}
}

// body writes a block that is inside of something, up to the beginning of the word that follows.
func (w *writer) body(b []api.Stat) {
	w.put("\n")
	w.depth++
	w.block(b)
	w.depth--
	w.indent()
}

// stat writes a statement without the indentation before it and the line feed after it.
func (w *writer) stat(s *api.Stat) {
	switch s.Kind {
	case api.SLocal:
		w.local(s)
	case api.SFunc:
		w.put("local ")
		w.namedFunction(&s.Right[0].Funcs[0])
	case api.SAssign:
		w.assign(s)
	case api.SCall:
		w.action(s.Right)
	case api.SIf:
		w.choice(s)
	case api.SRepeat:
		w.put("repeat")
		w.body(s.Blocks[0])
		w.put("until ")
		w.exprs(s.Right)
	case api.SDo, api.SWhile, api.SNum, api.SFor:
		w.loop(s)
	default:
		w.leave(s)
	}
}

// local writes a declaration of local variables.
func (w *writer) local(s *api.Stat) {
	w.put("local ")
	w.names(s.Names)
	if len(s.Right) > 0 {
		w.put(" = ")
		w.exprs(s.Right)
	}
}

// names writes local variables with their attributes.
func (w *writer) names(l []api.Local) {
	for i, x := range l {
		w.comma(i)
		w.put(x.Name)
		switch x.Attr {
		case api.Const:
			w.put(" <const>")
		case api.Close:
			w.put(" <close>")
		}
	}
}

// namedFunction writes a function with its name. A colon in the name stands for the first parameter.
func (w *writer) namedFunction(f *api.Func) {
	params := f.Params
	if strings.Contains(f.Name, ":") {
		params = params[1:]
	}
	w.put("function ", f.Name)
	w.function(params, f)
}

// assign writes an assignment.
func (w *writer) assign(s *api.Stat) {
	if r := &s.Right[0]; r.Kind == api.EFunc && r.Funcs[0].Name != "" {
		w.namedFunction(&r.Funcs[0])
		return
	}
	w.action(s.Left)
	w.put(" = ")
	w.exprs(s.Right)
}

// action writes the expressions with which an assignment or a call begins. With a bracket they would continue the
// statement before.
func (w *writer) action(l []api.Expr) {
	if opens(&l[0]) {
		w.put(";")
	}
	w.exprs(l)
}

// opens reports whether the text of an index or a call, or of a name, begins with a bracket.
func opens(e *api.Expr) bool {
	for e.Kind == api.EIndex || e.Kind == api.ECall || e.Kind == api.EMethod {
		e = &e.Args[0]
	}
	return e.Kind != api.EName
}

// choice writes conditions with their blocks.
func (w *writer) choice(s *api.Stat) {
	word := "if "
	for i, b := range s.Blocks {
		if i < len(s.Right) {
			w.put(word)
			w.expr(&s.Right[i])
			w.put(" then")
		} else {
			w.put("else")
		}
		w.body(b)
		word = "elseif "
	}
	w.put("end")
}

// loop writes a statement whose block stands between do and end.
func (w *writer) loop(s *api.Stat) {
	switch s.Kind {
	case api.SWhile:
		w.put("while ")
		w.exprs(s.Right)
		w.put(" ")
	case api.SNum:
		w.head(s, " = ")
	case api.SFor:
		w.head(s, " in ")
	}
	w.put("do")
	w.body(s.Blocks[0])
	w.put("end")
}

// head writes the variables and the expressions of a loop.
func (w *writer) head(s *api.Stat, sign string) {
	w.put("for ")
	w.names(s.Names)
	w.put(sign)
	w.exprs(s.Right)
	w.put(" ")
}

// leave writes a return, a jump or a label.
func (w *writer) leave(s *api.Stat) {
	switch s.Kind {
	case api.SReturn:
		w.put("return")
		if len(s.Right) > 0 {
			w.put(" ")
			w.exprs(s.Right)
		}
	case api.SBreak:
		w.put("break")
	case api.SGoto:
		w.put("goto ", s.Label)
	case api.SLabel:
		w.put("::", s.Label, "::")
	}
}
