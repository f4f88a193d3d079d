package operate_test

import (
	"math/big"
	"slices"
	"strings"
	"testing"

	"scripting/api"
	"scripting/heap"
	"scripting/meta"
	"scripting/operate"
)

// someValues returns valid values of all kinds, with strings that are texts of numbers and others.
func someValues() []api.Value {
	list := []api.Value{none, no, yes, str(""), str("x"), str("xy"), str("X"), str("1"), str(" 10 "), str("-3/2"), str("0x1F"), str("1/0"), str("\xff"), str(long(api.MaxString)), str(long(api.MaxString - 1)), host("f"), host("g"),
		object(api.Table, 1), object(api.Table, 2), object(api.Function, 1), object(api.Thread, 1), object(api.Data, 1), object(api.Data, 2)}
	for _, n := range []int{0, 1, -1, 2, -2, 3, 5, 7, 10, 31, 32, -31, -32, 33, 63, 64, 65, -64, -65, 255, 46341, 1 << 30, -1 << 30, api.MaxNum - 1, api.MaxNum, -api.MaxNum} {
		list = append(list, num(n))
	}
	for _, q := range []int{2, 3, 7, 64, 65537, api.MaxNum - 1, api.MaxNum} {
		list = append(list, frac(1, q), frac(-1, q), frac(5, q))
	}
	return append(list, frac(-3, 2), frac(api.MaxNum, 2), frac(api.MaxNum-1, api.MaxNum))
}

// asRat returns the number of a number operand, by the texts of someValues.
func asRat(v api.Value) (*big.Rat, bool) {
	switch {
	case v.Kind == api.Number:
		return big.NewRat(int64(v.Num.P), int64(v.Num.Q)), true
	case v.Kind == api.String:
		r, found := map[string]*big.Rat{"1": big.NewRat(1, 1), " 10 ": big.NewRat(10, 1), "-3/2": big.NewRat(-3, 2), "0x1F": big.NewRat(31, 1)}[v.Str]
		return r, found
	}
	return nil, false
}

// asText returns the text of a string operand.
func asText(v api.Value) (string, bool) {
	if v.Kind == api.Number {
		return big.NewRat(int64(v.Num.P), int64(v.Num.Q)).RatString(), true
	}
	return v.Str, v.Kind == api.String
}

// ofRat returns a number, or ErrRange if it is out of range.
func ofRat(r *big.Rat) (api.Value, api.Errno) {
	most := big.NewInt(api.MaxNum)
	if r.Num().CmpAbs(most) > 0 || r.Denom().Cmp(most) > 0 {
		return none, api.ErrRange
	}
	return frac(int(r.Num().Int64()), int(r.Denom().Int64())), api.OK
}

// floor returns the greatest integer that is at most r.
func floor(r *big.Rat) *big.Rat {
	q, m := new(big.Int).QuoRem(r.Num(), r.Denom(), new(big.Int))
	if m.Sign() < 0 {
		q.Sub(q, big.NewInt(1))
	}
	return new(big.Rat).SetInt(q)
}

// wantArithmetic computes with the arithmetic of math/big.
func wantArithmetic(op int, x, y *big.Rat) (api.Value, api.Errno) {
	z := new(big.Rat)
	divides := op == api.OpDiv || op == api.OpQuot || op == api.OpMod
	switch {
	case divides && y.Sign() == 0:
		return none, api.ErrZero
	case op == api.OpAdd:
		z.Add(x, y)
	case op == api.OpSub:
		z.Sub(x, y)
	case op == api.OpMul:
		z.Mul(x, y)
	case op == api.OpDiv:
		z.Quo(x, y)
	case op == api.OpQuot:
		z = floor(z.Quo(x, y))
	case op == api.OpMod:
		z.Sub(x, z.Mul(y, floor(z.Quo(x, y))))
	case op == api.OpPow:
		return wantPower(x, y)
	}
	return ofRat(z)
}

// wantPower multiplies as often as the exponent says.
func wantPower(x, y *big.Rat) (api.Value, api.Errno) {
	if !y.IsInt() || y.Cmp(big.NewRat(64, 1)) > 0 || y.Cmp(big.NewRat(-64, 1)) < 0 {
		return none, api.ErrRange
	}
	times := int(y.Num().Int64())
	if times < 0 && x.Sign() == 0 {
		return none, api.ErrZero
	}
	z := big.NewRat(1, 1)
	for range max(times, -times) {
		z.Mul(z, x)
	}
	if times < 0 {
		z.Inv(z)
	}
	return ofRat(z)
}

// wantBits computes with words of 32 bits.
func wantBits(op int, x, y *big.Rat) (api.Value, api.Errno) {
	if !x.IsInt() || !y.IsInt() {
		return none, api.ErrType
	}
	a, b, n := uint32(x.Num().Int64()), uint32(y.Num().Int64()), y.Num().Int64()
	if op == api.OpShr {
		n = -n
	}
	var z uint32
	switch {
	case op == api.OpAnd:
		z = a & b
	case op == api.OpOr:
		z = a | b
	case op == api.OpXor:
		z = a ^ b
	case n >= 0 && n < 32:
		z = a << n
	case n < 0 && n > -32:
		z = a >> -n
	}
	return ofRat(big.NewRat(int64(int32(z)), 1))
}

// wantCompared compares numbers or strings.
func wantCompared(op int, a, b api.Value) (api.Value, api.Errno) {
	order := 0
	switch {
	case a.Kind == api.String && b.Kind == api.String:
		order = strings.Compare(a.Str, b.Str)
	case a.Kind == api.Number && b.Kind == api.Number:
		x, _ := asRat(a)
		y, _ := asRat(b)
		order = x.Cmp(y)
	default:
		return none, api.ErrType
	}
	return truth(map[int]bool{api.OpLt: order < 0, api.OpLe: order <= 0, api.OpGt: order > 0, api.OpGe: order >= 0}[op]), api.OK
}

// truth returns a truth value.
func truth(b bool) api.Value {
	if b {
		return yes
	}
	return no
}

// wantBinary is P16.2 for a binary operator and valid operands.
func wantBinary(op int, a, b api.Value) (api.Value, api.Errno) {
	x, isX := asRat(a)
	y, isY := asRat(b)
	switch {
	case op == api.OpEq || op == api.OpNe:
		return truth((a == b) == (op == api.OpEq)), api.OK
	case slices.Contains(comparisons(), op):
		return wantCompared(op, a, b)
	case op == api.OpConcat:
		s, isS := asText(a)
		u, isU := asText(b)
		switch {
		case !isS || !isU:
			return none, api.ErrType
		case len(s)+len(u) > api.MaxString:
			return none, api.ErrLong
		}
		return str(s + u), api.OK
	case !isX || !isY:
		return none, api.ErrType
	case slices.Contains(bitwise(), op):
		return wantBits(op, x, y)
	}
	return wantArithmetic(op, x, y)
}

// TestPlainOfAll checks P16.2 for all pairs of some values.
func TestPlainOfAll(t *testing.T) {
	for _, op := range binary() {
		for _, a := range someValues() {
			for _, b := range someValues() {
				want, e := wantBinary(op, a, b)
				wantPlain(t, op, a, b, want, e)
			}
		}
	}
}

// TestPlainAlone is P16.6: on numbers and strings alone no call is asked for.
func TestPlainAlone(t *testing.T) {
	messages := map[api.Errno]string{api.ErrZero: "division by zero", api.ErrRange: "number out of range", api.ErrLong: "string too long"}
	check := func(op int, n api.Need, v api.Value, e api.Errno) {
		t.Helper()
		switch {
		case e == api.OK:
			wantNeed(t, operate.Name(op), n, done(v))
		case messages[e] != "":
			wantNeed(t, operate.Name(op), n, failing(messages[e]))
		case n.Kind != api.NeedError || e != api.ErrType || !strings.HasPrefix(n.Str, "attempt to ") && n.Str != "number has no integer representation":
			t.Errorf("%s: %v, error %d", operate.Name(op), n, int(e))
		}
	}
	for _, h := range []*heap.Heap{nil, heap.New()} {
		for _, a := range someValues() {
			if a.Kind != api.Number && a.Kind != api.String {
				continue
			}
			for _, op := range unary() {
				v, e := operate.Plain(op, a, none)
				check(op, operate.Unary(h, op, a), v, e)
			}
			for _, op := range binary() {
				for _, b := range someValues() {
					if b.Kind == api.Number || b.Kind == api.String {
						v, e := operate.Plain(op, a, b)
						check(op, operate.Binary(h, op, a, b), v, e)
					}
				}
			}
		}
	}
}

// crowded returns a heap with tables and host objects that have metamethods for some of the events, and all values of
// this file and of the heap.
func crowded(t *testing.T) (*heap.Heap, []api.Value) {
	t.Helper()
	h := heap.New()
	all := []string{"__add", "__sub", "__mul", "__div", "__idiv", "__mod", "__pow", "__concat", "__band", "__bor", "__bxor", "__shl", "__shr", "__eq", "__lt", "__le", "__unm", "__len", "__bnot"}
	list := append(someValues(), frac(1, 9))
	for i := range 6 {
		var events []string
		for j, event := range all {
			if i < 2 || (i+j)%3 == 0 {
				events = append(events, event)
			}
		}
		list = append(list, newTable(t, h, events...), newData(t, h, events...))
	}
	list = append(list, newTable(t, h), newData(t, h))
	h.Touched()
	return h, list
}

// TestSwapped is P16.7: > and >= are < and <= with the operands exchanged, and ~= is == inverted.
func TestSwapped(t *testing.T) {
	h, list := crowded(t)
	for _, a := range list {
		for _, b := range list {
			wantNeed(t, ">", operate.Binary(h, api.OpGt, a, b), operate.Binary(h, api.OpLt, b, a))
			wantNeed(t, ">=", operate.Binary(h, api.OpGe, a, b), operate.Binary(h, api.OpLe, b, a))
			eq, ne := operate.Binary(h, api.OpEq, a, b), operate.Binary(h, api.OpNe, a, b)
			if eq.Kind == api.NeedCall {
				if eq.After != api.AfterTrue {
					t.Errorf("== of %v and %v: %v", a, b, eq)
				}
				eq.After = api.AfterFalse
			} else {
				eq.Value = truth(eq.Value == no)
			}
			wantNeed(t, "~=", ne, eq)
		}
	}
}

// wantHandler returns the metamethod that is called for operands.
func wantHandler(h *heap.Heap, op int, a, b api.Value) api.Value {
	for _, v := range []api.Value{a, b} {
		if f := meta.Handler(h, v, operate.Event(op)); f != none {
			return f
		}
	}
	return none
}

// wantComplaint returns the message for operands without a metamethod.
func wantComplaint(op int, a, b api.Value) string {
	names := []string{"nil", "boolean", "number", "string", "table", "function", "function", "thread", "userdata"}
	types := []string{names[a.Kind], names[b.Kind]}
	first := func(isA, isB bool) string {
		if !isA {
			return " a " + types[0] + " value"
		}
		return " a " + types[1] + " value"
	}
	_, isX := asRat(a)
	_, isY := asRat(b)
	_, isS := asText(a)
	_, isU := asText(b)
	switch {
	case slices.Contains(arithmetic(), op) || op == api.OpNeg:
		return "attempt to perform arithmetic on" + first(isX, isY)
	case op == api.OpConcat:
		return "attempt to concatenate" + first(isS, isU)
	case slices.Contains(comparisons(), op) && types[0] == types[1]:
		return "attempt to compare two " + types[0] + " values"
	case slices.Contains(comparisons(), op):
		return "attempt to compare " + types[0] + " with " + types[1]
	case isX && isY:
		return "number has no integer representation"
	}
	return "attempt to perform bitwise operation on" + first(isX, isY)
}

// TestBinaryOfAll checks P16.3 and P16.8 for all pairs of many values.
func TestBinaryOfAll(t *testing.T) {
	h, list := crowded(t)
	swapped := map[int]int{api.OpGt: api.OpLt, api.OpGe: api.OpLe}
	for _, op := range binary() {
		for _, x := range list {
			for _, y := range list {
				used, a, b := op, x, y
				if swapped[op] != 0 {
					used, a, b = swapped[op], y, x
				}
				v, e := wantBinary(used, a, b)
				f := wantHandler(h, used, a, b)
				isEquality := op == api.OpEq || op == api.OpNe
				var want api.Need
				switch {
				case isEquality && a != b && a.Kind == b.Kind && (a.Kind == api.Table || a.Kind == api.Data) && f != none:
					want = calling(f, map[int]int{api.OpEq: api.AfterTrue, api.OpNe: api.AfterFalse}[op], a, b)
				case e == api.OK:
					want = done(v)
				case e != api.ErrType:
					want = failing(map[api.Errno]string{api.ErrZero: "division by zero", api.ErrRange: "number out of range", api.ErrLong: "string too long"}[e])
				case f == none:
					want = failing(wantComplaint(used, a, b))
				case used == api.OpLt || used == api.OpLe:
					want = calling(f, api.AfterTrue, a, b)
				default:
					want = calling(f, api.AfterOne, a, b)
				}
				wantNeed(t, operate.Name(op), operate.Binary(h, op, x, y), want)
			}
		}
	}
	if l := h.Touched(); len(l) > 0 {
		t.Errorf("the objects %v were changed", l)
	}
}

// TestUnaryOfAll checks P16.4 and P16.8 for many values.
func TestUnaryOfAll(t *testing.T) {
	h, list := crowded(t)
	for _, a := range list {
		x, isX := asRat(a)
		for _, op := range unary() {
			f := wantHandler(h, op, a, a)
			var want api.Need
			switch {
			case op == api.OpNot:
				want = done(truth(a == none || a == no))
			case op == api.OpLen:
				want = meta.Length(h, a)
			case isX && op == api.OpNeg:
				v, _ := ofRat(new(big.Rat).Neg(x))
				want = done(v)
			case isX && x.IsInt() && x.Num().Int64() == api.MaxNum:
				want = failing("number out of range")
			case isX && x.IsInt():
				v, _ := ofRat(new(big.Rat).Sub(big.NewRat(-1, 1), x)) // in two's complement
				want = done(v)
			case f != none:
				want = calling(f, api.AfterOne, a, a)
			default:
				want = failing(wantComplaint(op, a, a))
			}
			wantNeed(t, operate.Name(op), operate.Unary(h, op, a), want)
		}
	}
	if l := h.Touched(); len(l) > 0 {
		t.Errorf("the objects %v were changed", l)
	}
}

// TestResultsAreNew covers rule 4: two needs share no memory.
func TestResultsAreNew(t *testing.T) {
	h := heap.New()
	v := newTable(t, h, "__add", "__unm", "__len")
	for range 2 {
		for _, n := range []api.Need{operate.Binary(h, api.OpAdd, v, num(1)), operate.Unary(h, api.OpNeg, v), operate.Unary(h, api.OpLen, v)} {
			if len(n.Args) != 2 || n.Args[0] != v {
				t.Errorf("the arguments %v", n.Args)
			}
			n.Args[0] = none
		}
	}
}
