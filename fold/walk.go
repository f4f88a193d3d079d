package fold

import (
	"slices"

	"scripting/api"
	"scripting/tree"
)

// constant is the value of an expression, if it is known: if the expression is a constant.
type constant struct {
	known bool
	value api.Value
}

// folder folds a tree from its leaves on, each part once. It counts the names that it meets: an expression
// mentions a variable if there are more of them behind it than before it.
type folder struct{ names int }

// block returns a block folded.
func (f *folder) block(b []api.Stat) []api.Stat { return each(b, f.stat) }

// stat returns a statement folded.
func (f *folder) stat(s api.Stat) api.Stat {
	s.Names = slices.Clone(s.Names)
	s.Left = each(s.Left, f.alone)
	s.Right = each(s.Right, f.alone)
	s.Blocks = each(s.Blocks, f.block)
	return s
}

// function returns a function folded.
func (f *folder) function(fn api.Func) api.Func {
	fn.Params = slices.Clone(fn.Params)
	fn.Body = f.block(fn.Body)
	return fn
}

// alone returns an expression folded that is part of no other one.
func (f *folder) alone(e api.Expr) api.Expr {
	folded, _ := f.expr(e)
	return folded
}

// expr returns an expression folded, and its constant.
func (f *folder) expr(e api.Expr) (api.Expr, constant) {
	before := f.names
	if e.Kind == api.EName {
		f.names++
	}
	args := make([]constant, len(e.Args))
	at := 0
	e.Args = each(e.Args, func(arg api.Expr) api.Expr {
		arg, args[at] = f.expr(arg)
		at++
		return arg
	})
	e.Funcs = each(e.Funcs, f.function)
	var c constant
	if f.names == before {
		c = valueOf(e, args)
	}
	return replaced(e, args, c), c
}

// each returns what a function makes of the elements of a list, from left to right.
func each[T any](list []T, made func(T) T) []T {
	if len(list) == 0 {
		return nil
	}
	results := make([]T, len(list))
	for i, x := range list {
		results[i] = made(x)
	}
	return results
}

// replaced returns what takes the place of an expression whose parts are folded: the literal of its value, or
// the second operand of "and" or "or" if the first one always yields that.
func replaced(e api.Expr, args []constant, c constant) api.Expr {
	if c.known {
		if leaf(e.Kind) {
			return e
		}
		return literal(c.value, e.Line)
	}
	if len(args) != 2 || len(e.Funcs) > 0 || !args[0].known || !passes(e.Kind, args[0].value) {
		return e
	}
	second := e.Args[1]
	if tree.Multi(second) {
		// Alone, it could have several values.
		return api.Expr{Kind: api.EParen, Line: e.Line, Args: []api.Expr{second}}
	}
	return second
}

// leaf reports whether constants of a kind of expression are literals already.
func leaf(kind int) bool {
	switch kind {
	case api.ENil, api.ETrue, api.EFalse, api.ENumber, api.EString:
		return true
	}
	return false
}

// passes reports whether "and" or "or" yields its second operand if this is the value of the first one; for any
// other kind of expression it does not.
func passes(kind int, first api.Value) bool {
	return kind == api.EAnd && isTrue(first) || kind == api.EOr && !isTrue(first)
}
