package fold

import (
	"scripting/api"
	"scripting/rational"
)

// denominator is a multiple of the denominators of all numerals.
const denominator = 1000000000

// literal returns the literal of a value: the expression that is written for it, in a line.
func literal(v api.Value, line int) api.Expr {
	e := api.Expr{Kind: api.ENil, Line: line}
	switch v.Kind {
	case api.Bool:
		e.Kind = api.EFalse
		if isTrue(v) {
			e.Kind = api.ETrue
		}
	case api.Number:
		return numberLiteral(v.Num, line)
	case api.String:
		e.Kind, e.Str = api.EString, v.Str
	}
	return e
}

// numberLiteral returns the literal of a number. A numeral has no sign and a decimal denominator; so there are
// operators for all other numbers.
func numberLiteral(n api.Num, line int) api.Expr {
	switch {
	case n.P < 0:
		size, _ := rational.Neg(n)
		return api.Expr{Kind: api.EUnary, Op: api.OpNeg, Line: line, Args: []api.Expr{numberLiteral(size, line)}}
	case denominator%n.Q == 0:
		return api.Expr{Kind: api.ENumber, Line: line, Num: n}
	}
	return api.Expr{Kind: api.EBinary, Op: api.OpDiv, Line: line, Args: []api.Expr{
		{Kind: api.ENumber, Line: line, Num: api.Num{P: n.P, Q: 1}},
		{Kind: api.ENumber, Line: line, Num: api.Num{P: n.Q, Q: 1}},
	}}
}
