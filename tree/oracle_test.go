package tree_test

import (
	"regexp"
	"slices"
	"strings"

	"scripting/api"
)

// seen is a statement, expression or function of a chunk, its level (1 for the statements of the chunk), and
// what is said of it elsewhere.
type seen struct {
	stat  *api.Stat
	expr  *api.Expr
	fn    *api.Func
	level int
	last  bool     // a statement that is the last one of its block
	item  bool     // an expression that is directly in a table
	names []string // the Names that the function of an expression may have
}

// survey lists all that a chunk contains in the order of the text, and returns the depth of the chunk, too.
func survey(b []api.Stat) ([]seen, int) {
	var l []seen
	deepest := 0
	var inBlock func(b []api.Stat, level int)
	var inExpr func(e *api.Expr, x seen)
	inBlock = func(b []api.Stat, level int) {
		deepest = max(deepest, level)
		for i := range b {
			s := &b[i]
			l = append(l, seen{stat: s, level: level, last: i+1 == len(b)})
			exprs := func(list []api.Expr) {
				for j := range list {
					inExpr(&list[j], seen{level: level + 1, names: namesIn(s)})
				}
			}
			inner := func(list [][]api.Stat) {
				for _, x := range list {
					inBlock(x, level+1)
				}
			}
			exprs(s.Left)
			if s.Kind == api.SRepeat {
				inner(s.Blocks)
			}
			if s.Kind == api.SIf {
				for n := min(len(s.Right), len(s.Blocks)); n > 0; n-- {
					from := min(len(s.Right), len(s.Blocks)) - n
					exprs(s.Right[from : from+1])
					inner(s.Blocks[from : from+1])
				}
				exprs(s.Right[min(len(s.Right), len(s.Blocks)):])
				inner(s.Blocks[min(len(s.Right), len(s.Blocks)):])
				continue
			}
			exprs(s.Right)
			if s.Kind != api.SRepeat {
				inner(s.Blocks)
			}
		}
	}
	inExpr = func(e *api.Expr, x seen) {
		x.expr = e
		deepest = max(deepest, x.level)
		l = append(l, x)
		for i := range e.Args {
			inExpr(&e.Args[i], seen{level: x.level + 1, item: e.Kind == api.ETable, names: []string{""}})
		}
		for i := range e.Funcs {
			l = append(l, seen{fn: &e.Funcs[i], level: x.level + 1})
			inBlock(e.Funcs[i].Body, x.level+1)
		}
	}
	inBlock(b, 1)
	return l, deepest
}

// namesIn returns the Names that a function directly in a statement may have.
func namesIn(s *api.Stat) []string {
	if s.Kind == api.SFunc && len(s.Names) == 1 {
		return []string{s.Names[0].Name}
	}
	l := []string{""}
	if s.Kind != api.SAssign || len(s.Left) != 1 || len(s.Right) != 1 {
		return l
	}
	text := ""
	e := s.Left[0]
	for ; e.Kind == api.EIndex; e = e.Args[0] {
		if len(e.Args) != 2 || e.Args[1].Kind != api.EString || !isName(e.Args[1].Str) {
			return l
		}
		text = "." + e.Args[1].Str + text
	}
	if e.Kind != api.EName {
		return l
	}
	text = e.Str + text
	l = append(l, text)
	at := strings.LastIndex(text, ".")
	for _, f := range s.Right[0].Funcs {
		if at > 0 && len(f.Params) > 0 && f.Params[0] == "self" {
			l = append(l, text[:at]+":"+text[at+1:])
		}
	}
	return l
}

var (
	nameForm = regexp.MustCompile(`^[A-Za-z_][A-Za-z0-9_]*$`)
	keywords = strings.Fields("and break do else elseif end false for function goto if in local nil not or repeat return then true until while")
)

// isName reports whether s is a name.
func isName(s string) bool {
	return nameForm.MatchString(s) && len(s) <= api.MaxName && !slices.Contains(keywords, s)
}

// wantCheck returns what Check has to return.
func wantCheck(b []api.Stat) api.Errno {
	l, depth := survey(b)
	size := 0
	for _, x := range l {
		if x.fn == nil {
			size++
		}
	}
	if size > api.MaxNodes || depth > api.MaxDepth {
		return api.ErrLimit
	}
	for _, x := range l {
		var long, formed, named bool
		switch {
		case x.stat != nil:
			long, formed, named = wantStat(x)
		case x.expr != nil:
			long, formed, named = wantExpr(x)
		default:
			continue
		}
		switch {
		case long:
			return api.ErrLimit
		case !formed:
			return api.ErrForm
		case !named:
			return api.ErrName
		}
	}
	return api.OK
}

// These are the rows of the tables of the chapter: the lengths of the lists Names, Left, Right, Blocks, or Args,
// Funcs, each as a list of the lengths up to 4 that are permitted, where 4 stands for all longer ones.
var (
	statForms = map[int]string{
		api.SLocal: "1234 0 01234 0", api.SFunc: "1 0 1 0", api.SAssign: "0 1234 1234 0", api.SCall: "0 0 1 0",
		api.SDo: "0 0 0 1", api.SWhile: "0 0 1 1", api.SRepeat: "0 0 1 1", api.SIf: "0 0 1234 1234",
		api.SNum: "1 0 23 1", api.SFor: "1234 0 1234 1", api.SReturn: "0 0 01234 0", api.SBreak: "0 0 0 0",
		api.SGoto: "0 0 0 0", api.SLabel: "0 0 0 0",
	}
	exprForms = map[int]string{
		api.ENil: "0 0", api.ETrue: "0 0", api.EFalse: "0 0", api.ENumber: "0 0", api.EString: "0 0", api.EVararg: "0 0",
		api.EName: "0 0", api.EIndex: "2 0", api.ECall: "1234 0", api.EMethod: "1234 0", api.EFunc: "0 1",
		api.ETable: "01234 0", api.EItem: "1 0", api.EPair: "2 0", api.EUnary: "1 0", api.EBinary: "2 0",
		api.EAnd: "2 0", api.EOr: "2 0", api.EParen: "1 0",
	}
)

// lengths reports whether lists have permitted lengths.
func lengths(row string, lens ...int) bool {
	for _, n := range lens {
		digits, rest, _ := strings.Cut(row, " ")
		if strings.IndexByte(digits, byte('0'+min(n, 4))) < 0 {
			return false
		}
		row = rest
	}
	return true
}

// wantStat reports whether a statement is too long, and whether it is well-formed, and has names.
func wantStat(x seen) (long, formed, named bool) {
	s := x.stat
	long, named = len(s.Label) > 40, true
	formed = lengths(statForms[s.Kind], len(s.Names), len(s.Left), len(s.Right), len(s.Blocks)) && s.Line >= 0
	for _, v := range s.Names {
		long = long || len(v.Name) > 40
		named = named && isName(v.Name)
		formed = formed && (v.Attr == 0 || s.Kind == api.SLocal && (v.Attr == 1 || v.Attr == 2))
	}
	kinds := func(l []api.Expr, kinds ...int) {
		for _, e := range l {
			formed = formed && slices.Contains(kinds, e.Kind)
		}
	}
	switch s.Kind {
	case api.SGoto, api.SLabel:
		return long, formed, named && isName(s.Label)
	case api.SFunc:
		kinds(s.Right, api.EFunc)
	case api.SAssign:
		kinds(s.Left, api.EName, api.EIndex)
	case api.SCall:
		kinds(s.Right, api.ECall, api.EMethod)
	case api.SIf:
		formed = formed && (len(s.Blocks) == len(s.Right) || len(s.Blocks) == len(s.Right)+1)
	case api.SReturn:
		formed = formed && x.last
	}
	return long, formed && s.Label == "", named
}

// wantExpr reports the same of an expression.
func wantExpr(x seen) (long, formed, named bool) {
	e := x.expr
	named = true
	formed = lengths(exprForms[e.Kind], len(e.Args), len(e.Funcs)) && e.Line >= 0
	long = len(e.Str) > 40 && e.Kind != api.EString || len(e.Str) > 4096
	for _, f := range e.Funcs {
		long = long || len(f.Name) > 4096
		formed = formed && f.Line >= 0 && slices.Contains(x.names, f.Name)
		for _, p := range f.Params {
			long = long || len(p) > 40
			named = named && isName(p)
		}
	}
	if e.Kind == api.ENumber {
		formed = formed && goodNumber(e.Num)
	} else {
		formed = formed && e.Num == api.Num{}
	}
	switch e.Kind {
	case api.EName, api.EMethod:
		named = named && isName(e.Str)
	case api.EString:
	default:
		formed = formed && e.Str == ""
	}
	switch e.Kind {
	case api.EUnary:
		formed = formed && e.Op >= 20 && e.Op <= 23
	case api.EBinary:
		formed = formed && e.Op >= 1 && e.Op <= 19
	default:
		formed = formed && e.Op == 0
	}
	return long, formed && goodArgs(e) && (x.item || e.Kind != api.EItem && e.Kind != api.EPair), named
}

// goodNumber reports whether a numeral has this number.
func goodNumber(n api.Num) bool {
	if n.P < 0 || n.P > api.MaxNum || n.Q < 1 || n.Q > api.MaxNum || 1000000000%n.Q != 0 {
		return false
	}
	a, b := n.P, n.Q
	for b > 0 {
		a, b = b, a%b
	}
	return a == 1
}

// goodArgs reports whether the arguments of an expression have permitted kinds.
func goodArgs(e *api.Expr) bool {
	for i, a := range e.Args {
		good := true
		switch e.Kind {
		case api.EIndex, api.ECall, api.EMethod:
			good = i > 0 || a.Kind != api.EVararg
		case api.ETable:
			good = a.Kind == api.EItem || a.Kind == api.EPair
		case api.EParen:
			good = a.Kind == api.ECall || a.Kind == api.EMethod || a.Kind == api.EVararg
		}
		if !good {
			return false
		}
	}
	return true
}
