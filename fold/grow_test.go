package fold_test

import (
	"strings"

	"scripting/api"
)

// chance returns numbers that look like those of chance.
type chance struct{ state uint64 }

// below returns a number from 0 to n - 1.
func (c *chance) below(n int) int {
	c.state = c.state*6364136223846793005 + 1442695040888963407
	return int(c.state >> 33 % uint64(n))
}

// pick returns an element of a list.
func pick[T any](c *chance, l ...T) T { return l[c.below(len(l))] }

// gap returns a blank, which may be a new line.
func (c *chance) gap() string { return pick(c, " ", " ", " ", "\n") }

// operators are all binary operators and "and" and "or".
func operators() []string {
	return []string{"+", "-", "*", "/", "//", "%", "^", "..", "&", "|", "~", "<<", ">>", "==", "~=", "<", "<=", ">", ">=", "and", "or", "and", "or", "and", "or"}
}

// leaf returns the text of an expression without parts.
func (c *chance) leaf() string {
	if c.below(4) == 0 {
		return pick(c, "x", "y", "n", "s", "z", "...")
	}
	return pick(c, "nil", "true", "false", "0", "1", "2", "3", "7", "31", "32", "64", "0.5", "1.25", "0.000000001", "2147483647", "'a'", "'b'", "''", "'10'", "' 1/3 '", "'\\255'")
}

// expr returns the text of an expression.
func (c *chance) expr(depth int) string {
	if depth <= 0 || c.below(6) == 0 {
		return c.leaf()
	}
	one := func() string { return c.expr(depth - 1) }
	switch c.below(16) {
	case 0, 1, 2:
		return "(" + pick(c, "not", "-", "#", "~") + c.gap() + one() + ")"
	case 3:
		return "f(" + one() + "," + c.gap() + one() + ")"
	case 4:
		return pick(c, "(f)(", "(x or f)(", "s:m(") + one() + ")"
	case 5:
		return "(" + pick(c, "f("+one()+")", "...") + ")"
	case 6:
		return "{" + c.gap() + one() + ", [" + one() + "] = " + one() + ", k = " + one() + ", " + one() + "}"
	case 7:
		return "(" + one() + ")[" + one() + "]"
	case 8:
		return pick(c, "function()", "function(x, ...)", "function(...)") + c.gap() + c.block(depth-1, 2) + " end"
	}
	return "(" + one() + c.gap() + pick(c, operators()...) + c.gap() + one() + ")"
}

// block returns the text of a block with at most so many statements.
func (c *chance) block(depth, most int) string {
	var out strings.Builder
	for range c.below(most + 1) {
		out.WriteString(c.stat(depth) + pick(c, " ", ";", "\n", "\n\n"))
	}
	if c.below(3) == 0 {
		out.WriteString("return " + c.expr(depth) + "," + c.gap() + c.expr(depth))
	}
	return out.String()
}

// stat returns the text of a statement.
func (c *chance) stat(depth int) string {
	one := func() string { return c.expr(depth) }
	if depth <= 0 {
		return pick(c, "local x, y = ", "x = ", "local z <const> = ", "x, y = y, ") + one()
	}
	inner := func() string { return c.block(depth-1, 2) }
	switch c.below(12) {
	case 0:
		return "if " + one() + " then " + inner() + " elseif " + one() + " then " + inner() + " else " + inner() + " end"
	case 1:
		return "while " + one() + " do " + inner() + " end"
	case 2:
		return "repeat " + inner() + " until " + one()
	case 3:
		return "for n = " + pick(c, one(), "1") + ", " + pick(c, one(), "3") + " do " + inner() + " end"
	case 4:
		return "for n, s in " + one() + " do " + inner() + " end"
	case 5:
		return "local function f(x) " + inner() + " end"
	case 6:
		return "function x.y:m(y) " + inner() + " end"
	case 7:
		return "do " + inner() + " end"
	case 8:
		return "x[" + one() + "], y = " + one() + ", " + one()
	case 9:
		return "f(" + one() + ", " + one() + ")"
	}
	return pick(c, "local x, y = ", "x = ", "local s = ", "y, n = ") + one() + ", " + one()
}

// wildExpr returns an expression that need not be well-formed.
func (c *chance) wildExpr(depth int) api.Expr {
	kind := pick(c, api.ENil, api.ETrue, api.EFalse, api.ENumber, api.EString, api.EParen, api.EUnary, api.EUnary, api.EBinary, api.EBinary, api.EBinary, api.EAnd, api.EAnd, api.EOr, api.EOr)
	args := 0
	switch kind {
	case api.EParen, api.EUnary:
		args = 1
	case api.EBinary, api.EAnd, api.EOr:
		args = 2
	}
	if c.below(8) == 0 {
		kind = c.below(22) - 1
	}
	if c.below(8) == 0 {
		args = c.below(4)
	}
	e := api.Expr{Kind: kind, Op: api.OpAdd + c.below(api.OpGe), Line: c.below(9) - 1, Num: c.number(), Str: pick(c, "", "x", "a", "10")}
	if kind == api.EUnary {
		e.Op = api.OpNeg + c.below(4)
	}
	if c.below(8) == 0 {
		e.Op = c.below(30) - 3
	}
	for range args {
		if depth > 0 {
			e.Args = append(e.Args, c.wildExpr(depth-1))
		}
	}
	for depth > 0 && c.below(10) == 0 {
		e.Funcs = append(e.Funcs, api.Func{Name: pick(c, "", "f"), Params: []string{"p", "q"}[:c.below(3)], Vararg: c.below(2) == 0, Line: c.below(9), Body: c.wildBlock(depth - 1)})
	}
	return e
}

// number returns a number, which need not be valid.
func (c *chance) number() api.Num {
	return pick(c, api.Num{P: c.below(9) - 2, Q: 1}, api.Num{P: c.below(9) - 2, Q: 1}, api.Num{P: 1, Q: 3}, api.Num{P: -7, Q: 2}, api.Num{P: 1, Q: 512}, api.Num{P: api.MaxNum, Q: 2}, api.Num{P: 3, Q: 0}, api.Num{P: 2, Q: 4}, api.Num{})
}

// wildBlock returns a block that need not be well-formed.
func (c *chance) wildBlock(depth int) []api.Stat {
	var b []api.Stat
	for range c.below(3) {
		s := api.Stat{Kind: c.below(17) - 1, Line: c.below(9) - 1, Label: pick(c, "", "l")}
		for range c.below(2) {
			s.Names = append(s.Names, api.Local{Name: pick(c, "", "v"), Attr: c.below(4)})
			s.Left = append(s.Left, c.wildExpr(depth-1))
		}
		for range c.below(3) {
			s.Right = append(s.Right, c.wildExpr(depth-1))
		}
		for depth > 0 && c.below(2) == 0 {
			s.Blocks = append(s.Blocks, c.wildBlock(depth-1))
		}
		b = append(b, s)
	}
	return b
}
