package tree

import (
	"iter"
	"slices"

	"scripting/api"
)

// part is a part of a statement or expression: an expression or, if expr is nil, a block. A block that is the
// body of a function comes with that function.
type part struct {
	expr  *api.Expr
	fn    *api.Func
	block []api.Stat
}

// statParts yields the parts of a statement.
func statParts(s *api.Stat) iter.Seq[part] {
	return func(yield func(part) bool) {
		if !yieldExprs(s.Left, yield) {
			return
		}
		switch s.Kind {
		case api.SIf:
			yieldClauses(s, yield)
		case api.SRepeat:
			if yieldBlocks(s.Blocks, yield) {
				yieldExprs(s.Right, yield)
			}
		default:
			if yieldExprs(s.Right, yield) {
				yieldBlocks(s.Blocks, yield)
			}
		}
	}
}

// exprParts yields the parts of an expression.
func exprParts(e *api.Expr) iter.Seq[part] {
	return func(yield func(part) bool) {
		if !yieldExprs(e.Args, yield) {
			return
		}
		for i := range e.Funcs {
			if !yield(part{fn: &e.Funcs[i], block: e.Funcs[i].Body}) {
				return
			}
		}
	}
}

// yieldExprs yields expressions, and reports whether more parts are wanted.
func yieldExprs(list []api.Expr, yield func(part) bool) bool {
	for i := range list {
		if !yield(part{expr: &list[i]}) {
			return false
		}
	}
	return true
}

// yieldBlocks yields blocks, and reports whether more parts are wanted.
func yieldBlocks(list [][]api.Stat, yield func(part) bool) bool {
	for _, b := range list {
		if !yield(part{block: b}) {
			return false
		}
	}
	return true
}

// yieldClauses yields each condition before its block.
func yieldClauses(s *api.Stat, yield func(part) bool) {
	for i := range max(len(s.Right), len(s.Blocks)) {
		if i < len(s.Right) && !yield(part{expr: &s.Right[i]}) {
			return
		}
		if i < len(s.Blocks) && !yield(part{block: s.Blocks[i]}) {
			return
		}
	}
}

// node is a statement, an expression or a function.
type node struct {
	stat *api.Stat
	expr *api.Expr
	fn   *api.Func
}

// nodes yields all statements, expressions and functions in the order of the text. A function comes directly
// before its body, and so after the arguments of the expression that has it.
func nodes(b []api.Stat) iter.Seq[node] {
	return func(yield func(node) bool) { walkBlock(b, yield) }
}

// walkBlock yields the nodes of a block, and reports whether more are wanted.
func walkBlock(b []api.Stat, yield func(node) bool) bool {
	for i := range b {
		if !yield(node{stat: &b[i]}) || !walkParts(statParts(&b[i]), yield) {
			return false
		}
	}
	return true
}

// walkParts yields the nodes of parts, and reports whether more are wanted.
func walkParts(parts iter.Seq[part], yield func(node) bool) bool {
	for p := range parts {
		if !walkPart(p, yield) {
			return false
		}
	}
	return true
}

// walkPart yields the nodes of a part, and reports whether more are wanted.
func walkPart(p part, yield func(node) bool) bool {
	if p.expr != nil {
		return yield(node{expr: p.expr}) && walkParts(exprParts(p.expr), yield)
	}
	if p.fn != nil && !yield(node{fn: p.fn}) {
		return false
	}
	return walkBlock(p.block, yield)
}

// copyBlock returns a copy of a block that shares no memory with it.
func copyBlock(b []api.Stat) []api.Stat { return copyList(b, copyStat) }

// copyStat returns a copy of a statement that shares no memory with it.
func copyStat(s api.Stat) api.Stat {
	s.Names = slices.Clone(s.Names)
	s.Left = copyList(s.Left, copyExpr)
	s.Right = copyList(s.Right, copyExpr)
	s.Blocks = copyList(s.Blocks, copyBlock)
	return s
}

// copyExpr returns a copy of an expression that shares no memory with it.
func copyExpr(e api.Expr) api.Expr {
	e.Args = copyList(e.Args, copyExpr)
	e.Funcs = copyList(e.Funcs, copyFunc)
	return e
}

// copyFunc returns a copy of a function that shares no memory with it.
func copyFunc(f api.Func) api.Func {
	f.Params = slices.Clone(f.Params)
	f.Body = copyBlock(f.Body)
	return f
}

// copyList returns the copies of the elements of a list.
func copyList[T any](list []T, copyOf func(T) T) []T {
	if len(list) == 0 {
		return nil
	}
	copies := make([]T, len(list))
	for i, x := range list {
		copies[i] = copyOf(x)
	}
	return copies
}
