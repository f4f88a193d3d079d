package fold_test

import (
	"math/big"
	"strconv"

	"scripting/api"
)

// This file contains the definitions of the chapter once more: each expression is examined anew, and numbers are
// computed by math/big.

// names reports whether an expression mentions a variable.
func names(e api.Expr) bool {
	if e.Kind == api.EName {
		return true
	}
	for _, f := range e.Funcs {
		if namesIn(f.Body) {
			return true
		}
	}
	return namesAmong(e.Args)
}

// namesAmong reports whether one of some expressions mentions a variable.
func namesAmong(l []api.Expr) bool {
	for _, e := range l {
		if names(e) {
			return true
		}
	}
	return false
}

// namesIn reports whether an expression in a block mentions a variable.
func namesIn(b []api.Stat) bool {
	for _, s := range b {
		if namesAmong(s.Left) || namesAmong(s.Right) {
			return true
		}
		for _, inner := range s.Blocks {
			if namesIn(inner) {
				return true
			}
		}
	}
	return false
}

// wantConstant returns the value of an expression, and whether it is a constant.
func wantConstant(e api.Expr) (api.Value, bool) {
	if names(e) {
		return api.Value{}, false
	}
	v, ok := wantValue(e)
	if !ok {
		return api.Value{}, false
	}
	return v, true
}

// wantValue returns the value that an expression has without being executed, and whether it has one.
func wantValue(e api.Expr) (api.Value, bool) {
	var l []api.Value
	for _, x := range e.Args {
		v, ok := wantConstant(x)
		if !ok {
			break
		}
		l = append(l, v)
	}
	one, two := len(e.Args) == 1 && len(l) == 1, len(e.Args) == 2 && len(l) == 2
	first := len(e.Args) == 2 && len(l) >= 1
	switch {
	case e.Kind == api.ENil:
		return api.Value{}, true
	case e.Kind == api.ETrue:
		return api.Value{Kind: api.Bool, Ref: 1}, true
	case e.Kind == api.EFalse:
		return api.Value{Kind: api.Bool}, true
	case e.Kind == api.ENumber:
		return api.Value{Kind: api.Number, Num: e.Num}, lowest(e.Num)
	case e.Kind == api.EString:
		return api.Value{Kind: api.String, Str: e.Str}, len(e.Str) <= 4096
	case e.Kind == api.EParen && one:
		return l[0], true
	case e.Kind == api.EUnary && one:
		return wantUnary(e.Op, l[0])
	case e.Kind == api.EBinary && two:
		return wantBinary(e.Op, l[0], l[1])
	case e.Kind == api.EAnd && first && !wantTrue(l[0]), e.Kind == api.EOr && first && wantTrue(l[0]):
		return l[0], true
	case (e.Kind == api.EAnd || e.Kind == api.EOr) && two:
		return l[1], true
	}
	return api.Value{}, false
}

// lowest reports whether a number is a fraction in lowest terms and in range.
func lowest(n api.Num) bool {
	if n.Q < 1 || n.Q > 1<<31-1 || n.P > 1<<31-1 || n.P < -(1<<31-1) {
		return false
	}
	r := big.NewRat(int64(n.P), int64(n.Q))
	return r.Num().Int64() == int64(n.P) && r.Denom().Int64() == int64(n.Q)
}

// wantTrue reports whether a value is true.
func wantTrue(v api.Value) bool { return v.Kind != api.Nil && (v.Kind != api.Bool || v.Ref == 1) }

// wantBool returns a truth value.
func wantBool(b bool) (api.Value, bool) {
	if b {
		return api.Value{Kind: api.Bool, Ref: 1}, true
	}
	return api.Value{Kind: api.Bool}, true
}

// wantNumber returns a number, if it is in range.
func wantNumber(r *big.Rat) (api.Value, bool) {
	if !r.Num().IsInt64() || !r.Denom().IsInt64() {
		return api.Value{}, false
	}
	n := api.Num{P: int(r.Num().Int64()), Q: int(r.Denom().Int64())}
	return api.Value{Kind: api.Number, Num: n}, lowest(n)
}

// rat returns a number of math/big.
func rat(n api.Num) *big.Rat { return big.NewRat(int64(n.P), int64(n.Q)) }

// wantUnary returns the value of a unary operator.
func wantUnary(op int, v api.Value) (api.Value, bool) {
	switch {
	case op == api.OpNot:
		return wantBool(!wantTrue(v))
	case op == api.OpLen && v.Kind == api.String:
		return wantNumber(big.NewRat(int64(len(v.Str)), 1))
	case op == api.OpNeg && v.Kind == api.Number:
		return wantNumber(new(big.Rat).Neg(rat(v.Num)))
	case op == api.OpBnot && v.Kind == api.Number && v.Num.Q == 1:
		return wantNumber(big.NewRat(int64(^int32(v.Num.P)), 1))
	}
	return api.Value{}, false
}

// wantBinary returns the value of a binary operator.
func wantBinary(op int, v, w api.Value) (api.Value, bool) {
	numbers, strings := v.Kind == api.Number && w.Kind == api.Number, v.Kind == api.String && w.Kind == api.String
	switch {
	case op == api.OpEq || op == api.OpNe:
		return wantBool((v == w) == (op == api.OpEq))
	case op == api.OpConcat:
		a, isA := wantText(v)
		b, isB := wantText(w)
		return api.Value{Kind: api.String, Str: a + b}, isA && isB && len(a+b) <= 4096
	case op >= api.OpLt && op <= api.OpGe && numbers:
		c := rat(v.Num).Cmp(rat(w.Num))
		return wantBool(c < 0 && op <= api.OpLe || c > 0 && op >= api.OpGt || c == 0 && (op == api.OpLe || op == api.OpGe))
	case op >= api.OpLt && op <= api.OpGe && strings:
		less, more := v.Str < w.Str, v.Str > w.Str
		return wantBool(less && op <= api.OpLe || more && op >= api.OpGt || v == w && (op == api.OpLe || op == api.OpGe))
	case op >= api.OpAdd && op <= api.OpPow && numbers:
		return wantArithmetic(op, rat(v.Num), rat(w.Num))
	case op >= api.OpAnd && op <= api.OpShr && numbers && v.Num.Q == 1 && w.Num.Q == 1:
		return wantBits(op, v.Num.P, w.Num.P)
	}
	return api.Value{}, false
}

// wantText returns the text of a string or number.
func wantText(v api.Value) (string, bool) {
	s := strconv.Itoa(v.Num.P)
	switch {
	case v.Kind == api.String:
		s = v.Str
	case v.Kind != api.Number:
		return "", false
	case v.Num.Q != 1:
		s += "/" + strconv.Itoa(v.Num.Q)
	}
	return s, true
}

// wantArithmetic returns the value of an arithmetic operator.
func wantArithmetic(op int, a, b *big.Rat) (api.Value, bool) {
	r := new(big.Rat)
	switch op {
	case api.OpAdd:
		return wantNumber(r.Add(a, b))
	case api.OpSub:
		return wantNumber(r.Sub(a, b))
	case api.OpMul:
		return wantNumber(r.Mul(a, b))
	case api.OpPow:
		return wantPower(a, b)
	}
	if b.Sign() == 0 {
		return api.Value{}, false
	}
	if r.Quo(a, b); op == api.OpDiv {
		return wantNumber(r)
	}
	// Div of math/big rounds down for a positive divisor, as the denominator is.
	quot := new(big.Rat).SetInt(new(big.Int).Div(r.Num(), r.Denom()))
	if op == api.OpQuot {
		return wantNumber(quot)
	}
	return wantNumber(r.Sub(a, quot.Mul(quot, b)))
}

// wantPower returns a power with an integer from -64 to 64.
func wantPower(a, n *big.Rat) (api.Value, bool) {
	if !n.IsInt() || n.Num().CmpAbs(big.NewInt(64)) > 0 || a.Sign() == 0 && n.Sign() < 0 {
		return api.Value{}, false
	}
	times := new(big.Int).Abs(n.Num())
	p, q := new(big.Int).Exp(a.Num(), times, nil), new(big.Int).Exp(a.Denom(), times, nil)
	if n.Sign() < 0 {
		p, q = q, p
	}
	return wantNumber(new(big.Rat).SetFrac(p, q))
}

// wantBits returns the value of a bitwise operator of two integers.
func wantBits(op, m, n int) (api.Value, bool) {
	x := uint64(uint32(m))
	switch {
	case op == api.OpAnd:
		x &= uint64(uint32(n))
	case op == api.OpOr:
		x |= uint64(uint32(n))
	case op == api.OpXor:
		x ^= uint64(uint32(n))
	default:
		if op == api.OpShr {
			n = -n
		}
		for ; n > 0 && x > 0; n-- {
			x = x << 1 & 0xffffffff
		}
		for ; n < 0 && x > 0; n++ {
			x >>= 1
		}
	}
	return wantNumber(big.NewRat(int64(int32(uint32(x))), 1))
}

// wantLiteral returns the literal of a value with a line.
func wantLiteral(v api.Value, line int) api.Expr {
	switch {
	case v.Kind == api.String:
		return api.Expr{Kind: api.EString, Line: line, Str: v.Str}
	case v.Kind == api.Bool && v.Ref == 1:
		return api.Expr{Kind: api.ETrue, Line: line}
	case v.Kind == api.Bool:
		return api.Expr{Kind: api.EFalse, Line: line}
	case v.Kind == api.Nil:
		return api.Expr{Kind: api.ENil, Line: line}
	}
	n := v.Num
	if n.P < 0 {
		v.Num.P = -n.P
		return api.Expr{Kind: api.EUnary, Op: api.OpNeg, Line: line, Args: []api.Expr{wantLiteral(v, line)}}
	}
	e := api.Expr{Kind: api.ENumber, Line: line, Num: n}
	if 1000000000%n.Q != 0 {
		p, q := e, e
		p.Num, q.Num = api.Num{P: n.P, Q: 1}, api.Num{P: n.Q, Q: 1}
		e = api.Expr{Kind: api.EBinary, Op: api.OpDiv, Line: line, Args: []api.Expr{p, q}}
	}
	return e
}

// wantExpr returns an expression folded.
func wantExpr(e api.Expr) api.Expr {
	v, isConstant := wantConstant(e)
	first := api.Value{}
	short := (e.Kind == api.EAnd || e.Kind == api.EOr) && len(e.Args) == 2 && len(e.Funcs) == 0
	if short {
		first, short = wantConstant(e.Args[0])
	}
	e.Args = wantExprs(e.Args)
	var funcs []api.Func
	for _, f := range e.Funcs {
		f.Body = wantChunk(f.Body)
		funcs = append(funcs, f)
	}
	e.Funcs = funcs
	switch {
	case isConstant && (e.Kind < api.ENil || e.Kind > api.EString):
		return wantLiteral(v, e.Line)
	case isConstant || !short || wantTrue(first) != (e.Kind == api.EAnd):
		return e
	}
	switch second := e.Args[1]; second.Kind {
	case api.ECall, api.EMethod, api.EVararg:
		return api.Expr{Kind: api.EParen, Line: e.Line, Args: []api.Expr{second}}
	default:
		return second
	}
}

// wantExprs returns expressions folded.
func wantExprs(l []api.Expr) []api.Expr {
	var out []api.Expr
	for _, e := range l {
		out = append(out, wantExpr(e))
	}
	return out
}

// wantChunk returns a chunk folded.
func wantChunk(b []api.Stat) []api.Stat {
	var out []api.Stat
	for _, s := range b {
		s.Left, s.Right = wantExprs(s.Left), wantExprs(s.Right)
		var blocks [][]api.Stat
		for _, inner := range s.Blocks {
			blocks = append(blocks, wantChunk(inner))
		}
		s.Blocks = blocks
		out = append(out, s)
	}
	return out
}
