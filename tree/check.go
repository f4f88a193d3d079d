package tree

import (
	"math"
	"strings"

	"scripting/api"
	"scripting/lexer"
	"scripting/rational"
)

const (
	// many stands for no greatest length of a list.
	many = math.MaxInt
	// denominator is a multiple of the denominators of all numerals.
	denominator = 1000000000
)

// bounds are the least and the greatest value of an integer.
type bounds struct{ least, most int }

// statForm is what the fields of a well-formed statement have: the lengths of lists, the greatest attribute,
// and whether there is a label.
type statForm struct {
	names, left, right, blocks bounds
	attr                       int
	label                      bool
}

// exprForm is what the fields of a well-formed expression have: its operators, the length of Args, and whether
// there is a string or a function.
type exprForm struct {
	op, args bounds
	str, fn  bool
}

// statFormOf returns the form of a kind of statement, and whether there is such a kind.
func statFormOf(kind int) (f statForm, known bool) {
	free, some, one := bounds{0, many}, bounds{1, many}, bounds{1, 1}
	switch kind {
	case api.SLocal:
		f = statForm{names: some, right: free, attr: api.Close}
	case api.SFunc:
		f = statForm{names: one, right: one}
	case api.SAssign:
		f = statForm{left: some, right: some}
	case api.SCall:
		f = statForm{right: one}
	case api.SDo:
		f = statForm{blocks: one}
	case api.SWhile, api.SRepeat:
		f = statForm{right: one, blocks: one}
	case api.SIf:
		f = statForm{right: some, blocks: some}
	case api.SNum:
		f = statForm{names: one, right: bounds{2, 3}, blocks: one}
	case api.SFor:
		f = statForm{names: some, right: some, blocks: one}
	case api.SReturn:
		f = statForm{right: free}
	case api.SGoto, api.SLabel:
		f = statForm{label: true}
	case api.SBreak:
	default:
		return statForm{}, false
	}
	return f, true
}

// exprFormOf returns the form of a kind of expression, and whether there is such a kind.
func exprFormOf(kind int) (f exprForm, known bool) {
	free, some, one, two := bounds{0, many}, bounds{1, many}, bounds{1, 1}, bounds{2, 2}
	switch kind {
	case api.ENil, api.ETrue, api.EFalse, api.ENumber, api.EVararg:
	case api.EString, api.EName:
		f = exprForm{str: true}
	case api.EIndex, api.EPair, api.EAnd, api.EOr:
		f = exprForm{args: two}
	case api.ECall:
		f = exprForm{args: some}
	case api.EMethod:
		f = exprForm{args: some, str: true}
	case api.EFunc:
		f = exprForm{fn: true}
	case api.ETable:
		f = exprForm{args: free}
	case api.EItem, api.EParen:
		f = exprForm{args: one}
	case api.EUnary:
		f = exprForm{op: bounds{api.OpNeg, api.OpBnot}, args: one}
	case api.EBinary:
		f = exprForm{op: bounds{api.OpAdd, api.OpGe}, args: two}
	default:
		return exprForm{}, false
	}
	return f, true
}

// place is what is permitted where an expression is: to be an item of a table, and the Names of a function.
type place struct {
	item  bool
	named func(f api.Func) bool
}

// Check returns the error of the form of a chunk.
func Check(b []api.Stat) (e api.Errno) {
	defer func() {
		if x := recover(); x != nil {
			e = x.(api.Errno)
		}
	}()
	checkLimits(b)
	checkBlock(b)
	return api.OK
}

// Expr returns the error of the form of an expression.
func Expr(e api.Expr) api.Errno {
	return Check([]api.Stat{{Kind: api.SReturn, Right: []api.Expr{e}}})
}

// require reports an error unless a condition holds.
func require(holds bool, e api.Errno) {
	if !holds {
		panic(e)
	}
}

// checkLimits reports ErrLimit for a chunk that is too large or too deep.
func checkLimits(b []api.Stat) {
	n := 0
	for x := range nodes(b) {
		if x.fn == nil {
			n++
		}
		require(n <= api.MaxNodes, api.ErrLimit)
	}
	require(Depth(b) <= api.MaxDepth, api.ErrLimit)
}

// checkBlock reports the first error of a block.
func checkBlock(b []api.Stat) {
	for i := range b {
		checkStat(&b[i], i == len(b)-1)
	}
}

// checkStat reports the first error of a statement and of its parts.
func checkStat(s *api.Stat, last bool) {
	require(statFits(s), api.ErrLimit)
	require(statFormed(s) && (s.Kind != api.SReturn || last), api.ErrForm)
	require(statNamed(s), api.ErrName)
	where := place{named: functionNames(s)}
	for p := range statParts(s) {
		checkPart(p, where)
	}
}

// checkExpr reports the first error of an expression and of its parts.
func checkExpr(e *api.Expr, where place) {
	require(exprFits(e), api.ErrLimit)
	require(exprFormed(e) && exprPlaced(e, where), api.ErrForm)
	require(exprNamed(e), api.ErrName)
	inside := place{item: e.Kind == api.ETable, named: unnamed}
	for p := range exprParts(e) {
		checkPart(p, inside)
	}
}

// checkPart reports the first error of a part.
func checkPart(p part, where place) {
	if p.expr != nil {
		checkExpr(p.expr, where)
	} else {
		checkBlock(p.block)
	}
}

// statFits reports whether the strings of a statement are not too long.
func statFits(s *api.Stat) bool {
	for _, x := range s.Names {
		if len(x.Name) > api.MaxName {
			return false
		}
	}
	return len(s.Label) <= api.MaxName
}

// exprFits reports whether the strings of an expression are not too long.
func exprFits(e *api.Expr) bool {
	for _, f := range e.Funcs {
		if len(f.Name) > api.MaxString {
			return false
		}
		for _, x := range f.Params {
			if len(x) > api.MaxName {
				return false
			}
		}
	}
	if e.Kind == api.EString {
		return len(e.Str) <= api.MaxString
	}
	return len(e.Str) <= api.MaxName
}

// has reports whether an integer is within bounds.
func (b bounds) has(n int) bool { return n >= b.least && n <= b.most }

// statFormed reports whether a statement is well-formed apart from its names and its place.
func statFormed(s *api.Stat) bool {
	f, known := statFormOf(s.Kind)
	if !known || s.Line < 0 {
		return false
	}
	for _, x := range s.Names {
		if x.Attr < api.Plain || x.Attr > f.attr {
			return false
		}
	}
	return f.names.has(len(s.Names)) && f.left.has(len(s.Left)) && f.right.has(len(s.Right)) &&
		f.blocks.has(len(s.Blocks)) && (f.label || s.Label == "") && partsFormed(s)
}

// partsFormed reports whether the parts of a statement are such as its kind has.
func partsFormed(s *api.Stat) bool {
	switch s.Kind {
	case api.SFunc:
		return s.Right[0].Kind == api.EFunc
	case api.SCall:
		return s.Right[0].Kind == api.ECall || s.Right[0].Kind == api.EMethod
	case api.SIf:
		more := len(s.Blocks) - len(s.Right)
		return more == 0 || more == 1
	case api.SAssign:
		for _, e := range s.Left {
			if e.Kind != api.EName && e.Kind != api.EIndex {
				return false
			}
		}
	}
	return true
}

// exprFormed reports whether an expression is well-formed apart from its names and its place.
func exprFormed(e *api.Expr) bool {
	f, known := exprFormOf(e.Kind)
	if !known || e.Line < 0 {
		return false
	}
	funcs := 0
	if f.fn {
		funcs = 1
	}
	return f.op.has(e.Op) && f.args.has(len(e.Args)) && len(e.Funcs) == funcs && (f.str || e.Str == "") &&
		numberFormed(e) && argsFormed(e)
}

// numberFormed reports whether the number of an ENumber is that of a numeral, and that of any other expression
// is missing.
func numberFormed(e *api.Expr) bool {
	if e.Kind != api.ENumber {
		return e.Num == api.Num{}
	}
	return rational.Valid(e.Num) && e.Num.P >= 0 && denominator%e.Num.Q == 0
}

// argsFormed reports whether the arguments of an expression are such as its kind has.
func argsFormed(e *api.Expr) bool {
	switch e.Kind {
	case api.EIndex, api.ECall, api.EMethod:
		return e.Args[0].Kind != api.EVararg
	case api.EParen:
		return Multi(e.Args[0])
	case api.ETable:
		for _, x := range e.Args {
			if x.Kind != api.EItem && x.Kind != api.EPair {
				return false
			}
		}
	}
	return true
}

// exprPlaced reports whether an expression may be where it is, and its function may have its Name there.
func exprPlaced(e *api.Expr, where place) bool {
	switch e.Kind {
	case api.EItem, api.EPair:
		return where.item
	case api.EFunc:
		return e.Funcs[0].Line >= 0 && where.named(e.Funcs[0])
	}
	return true
}

// statNamed reports whether the names of a well-formed statement are names.
func statNamed(s *api.Stat) bool {
	for _, x := range s.Names {
		if !lexer.Name(x.Name) {
			return false
		}
	}
	f, _ := statFormOf(s.Kind)
	return !f.label || lexer.Name(s.Label)
}

// exprNamed reports whether the names of a well-formed expression are names.
func exprNamed(e *api.Expr) bool {
	for _, f := range e.Funcs {
		for _, x := range f.Params {
			if !lexer.Name(x) {
				return false
			}
		}
	}
	return e.Kind != api.EName && e.Kind != api.EMethod || lexer.Name(e.Str)
}

// functionNames returns the test of the Names of a function that is directly in Right of a statement. A call of
// it may rely on a well-formed left side, because that is checked before.
func functionNames(s *api.Stat) func(f api.Func) bool {
	switch {
	case s.Kind == api.SFunc:
		return func(f api.Func) bool { return f.Name == s.Names[0].Name }
	case s.Kind == api.SAssign && len(s.Left) == 1 && len(s.Right) == 1:
		return func(f api.Func) bool { return f.Name == "" || assignedTo(s.Left[0], f) }
	}
	return unnamed
}

// unnamed reports whether a function has no Name.
func unnamed(f api.Func) bool { return f.Name == "" }

// assignedTo reports whether the Name of a function is the text of the left side to which it is assigned.
func assignedTo(left api.Expr, f api.Func) bool {
	names := path(left)
	if names == nil {
		return false
	}
	if f.Name == strings.Join(names, ".") {
		return true
	}
	last := len(names) - 1
	method := last > 0 && len(f.Params) > 0 && f.Params[0] == "self"
	return method && f.Name == strings.Join(names[:last], ".")+":"+names[last]
}

// path returns the names of which a left side consists, or nil if it contains anything else.
func path(left api.Expr) []string {
	switch left.Kind {
	case api.EName:
		return []string{left.Str}
	case api.EIndex:
		object, key := path(left.Args[0]), left.Args[1]
		if object != nil && key.Kind == api.EString && lexer.Name(key.Str) {
			return append(object, key.Str)
		}
	}
	return nil
}
