package operate_test

import (
	"math"
	"slices"
	"strings"
	"testing"

	"scripting/api"
	"scripting/heap"
	"scripting/meta"
	"scripting/operate"
)

// none is the value nil.
var none = api.Value{}

// yes and no are the truth values.
var yes, no = api.Value{Kind: api.Bool, Ref: 1}, api.Value{Kind: api.Bool}

// frac returns a number as a value.
func frac(p, q int) api.Value { return api.Value{Kind: api.Number, Num: api.Num{P: p, Q: q}} }

// num returns an integer as a value.
func num(n int) api.Value { return frac(n, 1) }

// str returns a string as a value.
func str(s string) api.Value { return api.Value{Kind: api.String, Str: s} }

// object returns a value with an identity.
func object(kind, ref int) api.Value { return api.Value{Kind: kind, Ref: ref} }

// host returns a function of the host as a value.
func host(name string) api.Value { return api.Value{Kind: api.Builtin, Str: name} }

// long returns a string of so many bytes.
func long(n int) string { return strings.Repeat("x", n) }

// invalid returns values that are not valid.
func invalid() []api.Value {
	return []api.Value{{Ref: 1}, {Kind: api.Bool, Ref: 2}, {Kind: api.Number}, frac(2, 2), frac(api.MaxNum+1, 1), {Kind: api.Number, Num: api.Num{P: 1, Q: 1}, Ref: 1}, str(long(api.MaxString + 1)), {Kind: api.String, Str: "1", Ref: 1},
		host(""), object(api.Table, 0), object(api.Function, -1), {Kind: api.Table, Ref: 1, Str: "x"}, {Kind: api.Data}, {Kind: -1}, {Kind: 99, Ref: 1}}
}

// noOperators returns numbers that are no operators.
func noOperators() []int {
	return []int{0, -1, api.OpBnot + 1, 64, 99, 1 << 32, 1<<32 + 1, math.MinInt, math.MaxInt}
}

// unary and binary return the operators.
func unary() []int { return []int{api.OpNeg, api.OpNot, api.OpLen, api.OpBnot} }

func binary() []int {
	return slices.Concat(arithmetic(), bitwise(), comparisons(), []int{api.OpConcat})
}

// arithmetic, bitwise and comparisons return the operators of these groups.
func arithmetic() []int {
	return []int{api.OpAdd, api.OpSub, api.OpMul, api.OpDiv, api.OpQuot, api.OpMod, api.OpPow}
}

func bitwise() []int { return []int{api.OpAnd, api.OpOr, api.OpXor, api.OpShl, api.OpShr} }

func comparisons() []int {
	return []int{api.OpEq, api.OpNe, api.OpLt, api.OpLe, api.OpGt, api.OpGe}
}

// done returns the need of an operation whose result is known.
func done(v api.Value) api.Need { return api.Need{Kind: api.NeedValue, Value: v} }

// calling returns the need of a call.
func calling(f api.Value, after int, args ...api.Value) api.Need {
	return api.Need{Kind: api.NeedCall, Func: f, Args: args, After: after}
}

// failing returns the need of an operation that fails.
func failing(message string) api.Need { return api.Need{Kind: api.NeedError, Str: message} }

// equal reports whether two needs are equal.
func equal(a, b api.Need) bool {
	return a.Kind == b.Kind && a.Value == b.Value && a.Func == b.Func && a.After == b.After && a.Str == b.Str && slices.Equal(a.Args, b.Args)
}

// wantNeed checks what an operator needs.
func wantNeed(t *testing.T, what string, got, want api.Need) {
	t.Helper()
	if !equal(got, want) {
		t.Errorf("%s: %.299v; want %.299v", what, got, want)
	}
}

// must checks that there was no error.
func must(t *testing.T, e api.Errno) {
	t.Helper()
	if e != api.OK {
		t.Fatalf("error %d", int(e))
	}
}

// newTable returns a new table, with a metatable that has some fields.
func newTable(t *testing.T, h *heap.Heap, events ...string) api.Value {
	t.Helper()
	v, e := h.NewTable()
	must(t, e)
	return with(t, h, v, events...)
}

// newData returns a new host object, with a metatable that has some fields.
func newData(t *testing.T, h *heap.Heap, events ...string) api.Value {
	t.Helper()
	v, e := h.NewData("file")
	must(t, e)
	return with(t, h, v, events...)
}

// with gives an object a metatable with the fields of some events, and returns the object. Its metamethod for an event
// is the function of the host with the name of the event, preceded by the kind and identity of the object.
func with(t *testing.T, h *heap.Heap, v api.Value, events ...string) api.Value {
	t.Helper()
	if len(events) == 0 {
		return v
	}
	m, e := h.NewTable()
	must(t, e)
	must(t, h.SetMeta(v, m))
	for _, event := range events {
		must(t, h.Set(m, str(event), by(v, event)))
	}
	return v
}

// by returns the metamethod of an object for an event.
func by(v api.Value, event string) api.Value {
	return host(event + string(rune('a'+v.Kind)) + string(rune('a'+v.Ref)))
}

// TestNameAndEvent covers P16.1.
func TestNameAndEvent(t *testing.T) {
	want := map[int][2]string{
		api.OpAdd: {"+", "__add"}, api.OpSub: {"-", "__sub"}, api.OpMul: {"*", "__mul"}, api.OpDiv: {"/", "__div"}, api.OpQuot: {"//", "__idiv"}, api.OpMod: {"%", "__mod"}, api.OpPow: {"^", "__pow"},
		api.OpConcat: {"..", "__concat"}, api.OpAnd: {"&", "__band"}, api.OpOr: {"|", "__bor"}, api.OpXor: {"~", "__bxor"}, api.OpShl: {"<<", "__shl"}, api.OpShr: {">>", "__shr"},
		api.OpEq: {"==", "__eq"}, api.OpNe: {"~=", "__eq"}, api.OpLt: {"<", "__lt"}, api.OpLe: {"<=", "__le"}, api.OpGt: {">", "__lt"}, api.OpGe: {">=", "__le"},
		api.OpNeg: {"-", "__unm"}, api.OpNot: {"not", ""}, api.OpLen: {"#", "__len"}, api.OpBnot: {"~", "__bnot"},
	}
	if len(want) != len(unary())+len(binary()) {
		t.Errorf("%d operators", len(want))
	}
	for op := -300; op <= 300; op++ {
		if name, event := operate.Name(op), operate.Event(op); name != want[op][0] || event != want[op][1] {
			t.Errorf("operator %d: %q, %q", op, name, event)
		}
	}
	for _, op := range noOperators() {
		if name, event := operate.Name(op), operate.Event(op); name != "" || event != "" {
			t.Errorf("operator %d: %q, %q", op, name, event)
		}
	}
}

// wantPlain checks a result of Plain.
func wantPlain(t *testing.T, op int, a, b, want api.Value, wantE api.Errno) {
	t.Helper()
	if v, e := operate.Plain(op, a, b); v != want || e != wantE {
		t.Errorf("Plain of %.20v %s %.20v: %.20v, error %d; want %.20v, error %d", a, operate.Name(op), b, v, int(e), want, int(wantE))
	}
}

// TestPlain covers P16.2 for results.
func TestPlain(t *testing.T) {
	a, b := object(api.Table, 1), object(api.Table, 2)
	for _, x := range []struct {
		op         int
		a, b, want api.Value
	}{
		{api.OpAdd, str("10"), num(1), num(11)}, {api.OpAdd, frac(1, 3), frac(1, 6), frac(1, 2)}, {api.OpSub, num(1), str(" 1/2\n"), frac(1, 2)}, {api.OpMul, str("0x10"), str("-2"), num(-32)}, {api.OpDiv, num(7), num(2), frac(7, 2)},
		{api.OpQuot, num(7), num(2), num(3)}, {api.OpQuot, num(7), num(-2), num(-4)}, {api.OpMod, num(7), num(-2), num(-1)}, {api.OpMod, frac(5, 2), num(1), frac(1, 2)}, {api.OpPow, frac(2, 3), num(-2), frac(9, 4)}, {api.OpPow, num(0), num(0), num(1)},
		{api.OpPow, num(-1), num(63), num(-1)}, {api.OpPow, num(-1), num(-64), num(1)}, {api.OpPow, num(1), str("64"), num(1)}, {api.OpMod, num(api.MaxNum), frac(1, 2), num(0)}, {api.OpDiv, num(api.MaxNum), num(api.MaxNum), num(1)},
		{api.OpConcat, num(1), str("a"), str("1a")}, {api.OpConcat, frac(-1, 2), num(10), str("-1/210")}, {api.OpConcat, str(""), str(""), str("")}, {api.OpConcat, str("0x10"), num(1), str("0x101")},
		{api.OpConcat, str(long(api.MaxString)), str(""), str(long(api.MaxString))}, {api.OpConcat, str(long(api.MaxString - 2)), num(10), str(long(api.MaxString-2) + "10")},
		{api.OpAnd, num(-1), num(255), num(255)}, {api.OpAnd, num(6), str("3"), num(2)}, {api.OpOr, str("0x6"), num(3), num(7)}, {api.OpXor, num(6), num(3), num(5)}, {api.OpShl, num(1), num(4), num(16)}, {api.OpShl, num(-16), num(-4), num(0xfffffff)}, {api.OpShr, num(-1), num(28), num(15)},
		{api.OpShr, num(1), num(-30), num(1 << 30)}, {api.OpShl, num(5), num(32), num(0)}, {api.OpShr, num(5), num(api.MaxNum), num(0)}, {api.OpShl, num(-1), num(1), num(-2)},
		{api.OpEq, num(1), num(1), yes}, {api.OpEq, num(1), str("1"), no}, {api.OpEq, none, none, yes}, {api.OpEq, none, no, no}, {api.OpEq, a, a, yes}, {api.OpEq, a, b, no}, {api.OpEq, a, object(api.Data, 1), no}, {api.OpEq, host("f"), host("f"), yes}, {api.OpEq, str("a"), host("a"), no},
		{api.OpNe, num(1), num(1), no}, {api.OpNe, num(1), str("1"), yes}, {api.OpNe, a, b, yes}, {api.OpNe, none, none, no},
		{api.OpLt, num(1), num(2), yes}, {api.OpLt, num(2), num(2), no}, {api.OpLt, num(3), num(2), no}, {api.OpLt, str("10"), str("9"), yes}, {api.OpLt, frac(1, 3), frac(1, 2), yes},
		{api.OpLe, num(1), num(2), yes}, {api.OpLe, num(2), num(2), yes}, {api.OpLe, num(3), num(2), no}, {api.OpLe, str("a"), str("a"), yes}, {api.OpLe, str("a\x00"), str("a"), no},
		{api.OpGt, num(1), num(2), no}, {api.OpGt, num(2), num(2), no}, {api.OpGt, num(3), num(2), yes}, {api.OpGt, str("b"), str("abc"), yes},
		{api.OpGe, num(1), num(2), no}, {api.OpGe, num(2), num(2), yes}, {api.OpGe, num(3), num(2), yes}, {api.OpGe, str(""), str(""), yes},
	} {
		wantPlain(t, x.op, x.a, x.b, x.want, api.OK)
	}
}

// TestPlainOfOne covers P16.2 for unary operators: b is ignored, whatever it is.
func TestPlainOfOne(t *testing.T) {
	others := append(invalid(), none, num(3), frac(1, 2), str("x"), object(api.Table, 1))
	for _, x := range []struct {
		op      int
		a, want api.Value
		e       api.Errno
	}{
		{api.OpNeg, num(3), num(-3), api.OK}, {api.OpNeg, str("3"), num(-3), api.OK}, {api.OpNeg, str("-0x1F"), num(31), api.OK}, {api.OpNeg, num(0), num(0), api.OK}, {api.OpNeg, frac(-1, 2), frac(1, 2), api.OK}, {api.OpNeg, num(api.MaxNum), num(-api.MaxNum), api.OK},
		{api.OpNeg, str("x"), none, api.ErrType}, {api.OpNeg, str(""), none, api.ErrType}, {api.OpNeg, none, none, api.ErrType}, {api.OpNeg, yes, none, api.ErrType}, {api.OpNeg, object(api.Table, 1), none, api.ErrType}, {api.OpNeg, host("1"), none, api.ErrType},
		{api.OpNot, none, yes, api.OK}, {api.OpNot, no, yes, api.OK}, {api.OpNot, yes, no, api.OK}, {api.OpNot, num(0), no, api.OK}, {api.OpNot, str(""), no, api.OK}, {api.OpNot, object(api.Table, 1), no, api.OK}, {api.OpNot, host("f"), no, api.OK},
		{api.OpLen, str("abc"), num(3), api.OK}, {api.OpLen, str(""), num(0), api.OK}, {api.OpLen, str("é\x00"), num(3), api.OK}, {api.OpLen, str(long(api.MaxString)), num(api.MaxString), api.OK},
		{api.OpLen, num(12), none, api.ErrType}, {api.OpLen, none, none, api.ErrType}, {api.OpLen, object(api.Table, 1), none, api.ErrType}, {api.OpLen, host("abc"), none, api.ErrType},
		{api.OpBnot, num(0), num(-1), api.OK}, {api.OpBnot, num(-1), num(0), api.OK}, {api.OpBnot, str("5"), num(-6), api.OK}, {api.OpBnot, num(-api.MaxNum), num(api.MaxNum - 1), api.OK}, {api.OpBnot, num(api.MaxNum), none, api.ErrRange},
		{api.OpBnot, frac(1, 2), none, api.ErrType}, {api.OpBnot, str("1/2"), none, api.ErrType}, {api.OpBnot, str("x"), none, api.ErrType}, {api.OpBnot, none, none, api.ErrType}, {api.OpBnot, object(api.Data, 1), none, api.ErrType},
	} {
		for _, b := range others {
			wantPlain(t, x.op, x.a, b, x.want, x.e)
		}
	}
}

// TestPlainErrors covers the errors of P16.2 of binary operators, and which one is first.
func TestPlainErrors(t *testing.T) {
	for _, x := range []struct {
		op   int
		a, b api.Value
		e    api.Errno
	}{
		{api.OpDiv, num(1), num(0), api.ErrZero}, {api.OpQuot, num(1), str("0"), api.ErrZero}, {api.OpMod, num(0), num(0), api.ErrZero}, {api.OpPow, num(0), num(-1), api.ErrZero}, {api.OpPow, num(0), num(-64), api.ErrZero},
		{api.OpPow, num(2), frac(1, 2), api.ErrRange}, {api.OpPow, num(1), num(65), api.ErrRange}, {api.OpPow, num(1), num(-65), api.ErrRange}, {api.OpPow, num(0), num(-65), api.ErrRange}, {api.OpPow, num(2), num(31), api.ErrRange}, {api.OpPow, num(2), num(-31), api.ErrRange},
		{api.OpAdd, num(api.MaxNum), num(1), api.ErrRange}, {api.OpSub, num(-api.MaxNum), num(1), api.ErrRange}, {api.OpMul, num(api.MaxNum), num(2), api.ErrRange}, {api.OpDiv, num(1), frac(1, api.MaxNum), api.OK}, {api.OpDiv, num(2), frac(1, api.MaxNum), api.ErrRange}, {api.OpQuot, num(api.MaxNum), frac(1, 2), api.ErrRange},
		{api.OpShl, num(1), num(31), api.ErrRange}, {api.OpShl, frac(1, 2), num(1), api.ErrType}, {api.OpShl, num(1), frac(1, 2), api.ErrType}, {api.OpAnd, str("1/2"), num(1), api.ErrType}, {api.OpOr, num(1), str("0.5"), api.ErrType},
		{api.OpConcat, str(long(api.MaxString)), str("x"), api.ErrLong}, {api.OpConcat, num(10), str(long(api.MaxString - 1)), api.ErrLong}, {api.OpConcat, str(long(api.MaxString)), str(long(api.MaxString)), api.ErrLong}, {api.OpConcat, str(long(api.MaxString)), none, api.ErrType},
		{api.OpConcat, yes, str("a"), api.ErrType}, {api.OpConcat, str("a"), none, api.ErrType}, {api.OpConcat, host("a"), str("a"), api.ErrType}, {api.OpConcat, object(api.Table, 1), object(api.Table, 1), api.ErrType},
		{api.OpDiv, str("x"), num(0), api.ErrType}, {api.OpDiv, none, num(0), api.ErrType}, {api.OpAdd, str(""), num(1), api.ErrType}, {api.OpAdd, num(1), str("1x"), api.ErrType}, {api.OpAdd, num(1), host("1"), api.ErrType}, {api.OpAdd, num(1), str("2147483648"), api.ErrType}, {api.OpPow, num(2), str("x"), api.ErrType},
		{api.OpAnd, str("x"), num(1), api.ErrType}, {api.OpAnd, num(1), yes, api.ErrType}, {api.OpShl, num(1), object(api.Thread, 1), api.ErrType},
	} {
		want := none
		if x.e == api.OK {
			want = num(api.MaxNum)
		}
		wantPlain(t, x.op, x.a, x.b, want, x.e)
	}
	for _, op := range []int{api.OpLt, api.OpLe, api.OpGt, api.OpGe} {
		for _, a := range []api.Value{none, yes, object(api.Table, 1), object(api.Function, 1), host("f"), object(api.Thread, 1), object(api.Data, 1)} {
			for _, b := range []api.Value{a, num(1), str("1"), none, no} {
				wantPlain(t, op, a, b, none, api.ErrType)
				wantPlain(t, op, b, a, none, api.ErrType)
			}
		}
		wantPlain(t, op, num(1), str("2"), none, api.ErrType)
		wantPlain(t, op, str("1"), num(2), none, api.ErrType)
	}
}

// TestBadArguments covers what is no operator or no value in P16.2 to P16.4.
func TestBadArguments(t *testing.T) {
	h := heap.New()
	v := newTable(t, h, "__add", "__eq", "__unm", "__len", "")
	bad := failing("bad argument")
	for _, a := range append(invalid(), num(1), str("1"), none, v) {
		for _, op := range noOperators() {
			wantPlain(t, op, a, num(1), none, api.ErrArg)
			wantNeed(t, "Binary", operate.Binary(h, op, a, v), bad)
			wantNeed(t, "Unary", operate.Unary(h, op, a), bad)
		}
		for _, op := range unary() {
			wantNeed(t, "Binary", operate.Binary(h, op, a, a), bad)
		}
		for _, op := range binary() {
			wantNeed(t, "Unary", operate.Unary(h, op, a), bad)
		}
	}
	for _, a := range invalid() {
		for _, op := range binary() {
			for _, b := range []api.Value{a, num(0), str("x"), none, v} {
				wantPlain(t, op, a, b, none, api.ErrArg)
				wantPlain(t, op, b, a, none, api.ErrArg)
				wantNeed(t, "Binary", operate.Binary(h, op, a, b), bad)
				wantNeed(t, "Binary", operate.Binary(h, op, b, a), bad)
			}
		}
		for _, op := range unary() {
			wantPlain(t, op, a, num(1), none, api.ErrArg)
			wantNeed(t, "Unary", operate.Unary(h, op, a), bad)
		}
	}
}

// TestBinaryMessages covers the messages of P16.3.
func TestBinaryMessages(t *testing.T) {
	h := heap.New()
	v, d := newTable(t, h), newData(t, h)
	f, co := object(api.Function, 9), object(api.Thread, 9)
	for _, x := range []struct {
		op   int
		a, b api.Value
		want string
	}{
		{api.OpDiv, num(1), num(0), "division by zero"}, {api.OpMod, str("1"), num(0), "division by zero"}, {api.OpPow, num(0), num(-1), "division by zero"}, {api.OpMul, num(api.MaxNum), num(2), "number out of range"}, {api.OpPow, num(2), frac(1, 2), "number out of range"},
		{api.OpShl, num(1), num(31), "number out of range"}, {api.OpConcat, str(long(api.MaxString)), num(1), "string too long"},
		{api.OpAdd, none, num(1), "attempt to perform arithmetic on a nil value"}, {api.OpSub, num(1), v, "attempt to perform arithmetic on a table value"}, {api.OpMul, yes, none, "attempt to perform arithmetic on a boolean value"}, {api.OpDiv, str("x"), num(0), "attempt to perform arithmetic on a string value"},
		{api.OpQuot, num(1), f, "attempt to perform arithmetic on a function value"}, {api.OpMod, host("f"), co, "attempt to perform arithmetic on a function value"}, {api.OpPow, str("7"), co, "attempt to perform arithmetic on a thread value"}, {api.OpAdd, d, v, "attempt to perform arithmetic on a userdata value"},
		{api.OpAdd, frac(1, 2), str(""), "attempt to perform arithmetic on a string value"},
		{api.OpXor, num(1), none, "attempt to perform bitwise operation on a nil value"}, {api.OpAnd, frac(1, 2), none, "attempt to perform bitwise operation on a nil value"}, {api.OpOr, v, frac(1, 2), "attempt to perform bitwise operation on a table value"}, {api.OpShr, str("x"), v, "attempt to perform bitwise operation on a string value"},
		{api.OpShl, frac(1, 2), num(1), "number has no integer representation"}, {api.OpShr, num(1), str("1/2"), "number has no integer representation"}, {api.OpAnd, str("0.5"), frac(1, 2), "number has no integer representation"},
		{api.OpConcat, v, str("x"), "attempt to concatenate a table value"}, {api.OpConcat, num(1), none, "attempt to concatenate a nil value"}, {api.OpConcat, yes, d, "attempt to concatenate a boolean value"}, {api.OpConcat, str(long(api.MaxString)), host("f"), "attempt to concatenate a function value"},
		{api.OpLt, num(1), none, "attempt to compare number with nil"}, {api.OpGt, num(1), none, "attempt to compare nil with number"}, {api.OpLe, v, num(1), "attempt to compare table with number"}, {api.OpGe, v, str("x"), "attempt to compare string with table"},
		{api.OpLt, v, newTable(t, h), "attempt to compare two table values"}, {api.OpGt, none, none, "attempt to compare two nil values"}, {api.OpLe, f, host("f"), "attempt to compare two function values"}, {api.OpGe, yes, no, "attempt to compare two boolean values"}, {api.OpLt, num(1), str("2"), "attempt to compare number with string"},
		{api.OpLe, d, v, "attempt to compare userdata with table"},
	} {
		wantNeed(t, operate.Name(x.op), operate.Binary(h, x.op, x.a, x.b), failing(x.want))
	}
}

// TestBinaryMetamethods covers the calls of P16.3: the metamethod of the first operand, or else of the second one.
func TestBinaryMetamethods(t *testing.T) {
	for _, op := range binary() {
		if op == api.OpEq || op == api.OpNe {
			continue
		}
		h := heap.New()
		event := operate.Event(op)
		v, w, d, plain := newTable(t, h, event), newTable(t, h, event), newData(t, h, event), newTable(t, h, "__x")
		after := api.AfterOne
		swap := op == api.OpGt || op == api.OpGe
		if swap || op == api.OpLt || op == api.OpLe {
			after = api.AfterTrue
		}
		h.Touched()
		for _, x := range [][3]api.Value{ // the operands, and the one whose metamethod is called
			{v, w, v}, {w, v, w}, {v, v, v}, {v, d, v}, {d, v, d}, {v, num(1), v}, {num(1), v, v}, {none, d, d}, {d, none, d}, {str("1"), v, v}, {plain, v, v}, {v, plain, v}, {object(api.Table, 99), w, w}, {str(long(api.MaxString)), d, d}, {num(0), d, d}, {v, num(0), v},
		} {
			a, b := x[0], x[1]
			if swap {
				a, b = b, a
			}
			wantNeed(t, operate.Name(op), operate.Binary(h, op, a, b), calling(by(x[2], event), after, x[0], x[1]))
		}
		if n := operate.Binary(h, op, num(1), plain); n.Kind != api.NeedError {
			t.Errorf("%s without a metamethod: %v", operate.Name(op), n)
		}
		if n := operate.Binary(h, op, num(1), num(2)); n.Kind != api.NeedValue {
			t.Errorf("%s of numbers: %v", operate.Name(op), n)
		}
		if l := h.Touched(); len(l) > 0 { // P16.8
			t.Errorf("%s has changed %v", operate.Name(op), l)
		}
	}
}

// TestMetamethodsOfAnyKind covers P16.3 and P16.4: a metamethod need not be a function, and false is one.
func TestMetamethodsOfAnyKind(t *testing.T) {
	h := heap.New()
	v, d := newTable(t, h, "__x"), newData(t, h, "__x")
	for _, f := range []api.Value{num(1), no, str("f"), v, object(api.Function, 99), object(api.Thread, 99)} {
		for _, event := range []string{"__add", "__eq", "__le", "__unm", "__bnot", "__len"} {
			must(t, h.Set(h.Meta(v), str(event), f))
		}
		wantNeed(t, "+", operate.Binary(h, api.OpAdd, d, v), calling(f, api.AfterOne, d, v))
		wantNeed(t, "<=", operate.Binary(h, api.OpLe, d, v), calling(f, api.AfterTrue, d, v))
		wantNeed(t, "~=", operate.Binary(h, api.OpNe, v, h.Meta(v)), calling(f, api.AfterFalse, v, h.Meta(v)))
		wantNeed(t, "-", operate.Unary(h, api.OpNeg, v), calling(f, api.AfterOne, v, v))
		wantNeed(t, "~", operate.Unary(h, api.OpBnot, v), calling(f, api.AfterOne, v, v))
		wantNeed(t, "#", operate.Unary(h, api.OpLen, v), calling(f, api.AfterOne, v, v))
		must(t, h.Set(h.Meta(d), str("__add"), host("g")))
		wantNeed(t, "+", operate.Binary(h, api.OpAdd, v, d), calling(f, api.AfterOne, v, d))
		must(t, h.Set(h.Meta(d), str("__add"), none))
	}
}

// TestEquality covers OpEq and OpNe of P16.3.
func TestEquality(t *testing.T) {
	h := heap.New()
	v, w, plain := newTable(t, h, "__eq"), newTable(t, h, "__eq"), newTable(t, h, "__lt")
	d, e, dull := newData(t, h, "__eq"), newData(t, h, "__eq"), newData(t, h)
	check := func(a, b api.Value, called api.Value) {
		t.Helper()
		wantEq, wantNe := done(no), done(yes)
		if called != none {
			wantEq, wantNe = calling(by(called, "__eq"), api.AfterTrue, a, b), calling(by(called, "__eq"), api.AfterFalse, a, b)
		} else if a == b {
			wantEq, wantNe = wantNe, wantEq
		}
		wantNeed(t, "==", operate.Binary(h, api.OpEq, a, b), wantEq)
		wantNeed(t, "~=", operate.Binary(h, api.OpNe, a, b), wantNe)
	}
	check(v, w, v)
	check(w, v, w)
	check(plain, v, v)
	check(v, plain, v)
	check(object(api.Table, 99), v, v)
	check(d, e, d)
	check(e, d, e)
	check(dull, d, d)
	check(d, dull, d)
	check(plain, newTable(t, h), none)
	check(dull, newData(t, h), none)
	for _, a := range []api.Value{v, d, plain, none, yes, no, num(1), str("1"), host("f"), object(api.Function, v.Ref), object(api.Thread, v.Ref), object(api.Function, 99)} {
		check(a, a, none)
		for _, b := range []api.Value{num(2), str("x"), none, no, object(api.Function, 77), object(api.Thread, 77), host("g")} {
			check(a, b, none)
			check(b, a, none)
		}
	}
	check(v, d, none)
	check(d, v, none)
	check(object(api.Data, 99), v, none)
}

// TestUnary covers P16.4.
func TestUnary(t *testing.T) {
	h := heap.New()
	v, d, plain := newTable(t, h, "__unm", "__bnot", "__len", ""), newData(t, h, "__unm", "__bnot", "__len", ""), newTable(t, h)
	must(t, h.Set(plain, num(1), str("x")))
	h.Touched()
	for _, x := range []struct {
		op   int
		a    api.Value
		want api.Need
	}{
		{api.OpNeg, str("3"), done(num(-3))}, {api.OpNeg, frac(1, 2), done(frac(-1, 2))}, {api.OpNeg, none, failing("attempt to perform arithmetic on a nil value")}, {api.OpNeg, str("x"), failing("attempt to perform arithmetic on a string value")}, {api.OpNeg, plain, failing("attempt to perform arithmetic on a table value")},
		{api.OpNeg, v, calling(by(v, "__unm"), api.AfterOne, v, v)}, {api.OpNeg, d, calling(by(d, "__unm"), api.AfterOne, d, d)},
		{api.OpBnot, num(0), done(num(-1))}, {api.OpBnot, str(" 1 "), done(num(-2))}, {api.OpBnot, num(api.MaxNum), failing("number out of range")}, {api.OpBnot, frac(1, 2), failing("number has no integer representation")}, {api.OpBnot, str("1/2"), failing("number has no integer representation")},
		{api.OpBnot, yes, failing("attempt to perform bitwise operation on a boolean value")}, {api.OpBnot, str("x"), failing("attempt to perform bitwise operation on a string value")}, {api.OpBnot, plain, failing("attempt to perform bitwise operation on a table value")},
		{api.OpBnot, v, calling(by(v, "__bnot"), api.AfterOne, v, v)}, {api.OpBnot, d, calling(by(d, "__bnot"), api.AfterOne, d, d)},
		{api.OpNot, none, done(yes)}, {api.OpNot, no, done(yes)}, {api.OpNot, yes, done(no)}, {api.OpNot, num(0), done(no)}, {api.OpNot, v, done(no)}, {api.OpNot, d, done(no)},
		{api.OpLen, str("ab"), done(num(2))}, {api.OpLen, plain, done(num(1))}, {api.OpLen, v, calling(by(v, "__len"), api.AfterOne, v, v)}, {api.OpLen, d, calling(by(d, "__len"), api.AfterOne, d, d)},
		{api.OpLen, num(1), failing("attempt to get length of a number value")}, {api.OpLen, host("f"), failing("attempt to get length of a function value")}, {api.OpLen, object(api.Table, 99), done(num(0))},
	} {
		wantNeed(t, operate.Name(x.op), operate.Unary(h, x.op, x.a), x.want)
	}
	if l := h.Touched(); len(l) > 0 { // P16.8
		t.Errorf("Unary has changed %v", l)
	}
}

// TestSettle covers P16.5.
func TestSettle(t *testing.T) {
	afters := []int{math.MinInt, -1, 0, api.AfterOne, api.AfterTrue, api.AfterFalse, api.AfterNone, 5, math.MaxInt}
	for _, first := range []api.Value{none, no, yes, num(0), num(1), str(""), object(api.Table, 1), {Kind: api.Bool, Ref: 2}, {Ref: 1}, {Kind: 99}} {
		isTrue := first.Kind != api.Nil && first != no
		lists := [][]api.Value{{first}, {first, yes}, {first, none, num(3)}}
		if first == none {
			lists = append(lists, nil, []api.Value{})
		}
		for _, results := range lists {
			for _, after := range afters {
				n := api.Need{Kind: api.NeedCall, Value: num(7), Func: host("f"), Args: []api.Value{num(8)}, After: after}
				want := none
				switch {
				case after == api.AfterOne:
					want = first
				case after == api.AfterTrue && isTrue, after == api.AfterFalse && !isTrue:
					want = yes
				case after == api.AfterTrue, after == api.AfterFalse:
					want = no
				}
				if v := operate.Settle(n, results); v != want {
					t.Errorf("Settle(%v, %v): %v; want %v", n, results, v, want)
				}
				n.Kind = api.NeedValue
				if v := operate.Settle(n, results); v != num(7) {
					t.Errorf("Settle(%v, %v): %v", n, results, v)
				}
				for _, kind := range []int{math.MinInt, -1, 0, api.NeedError, 4, 99} {
					n.Kind = kind
					if v := operate.Settle(n, results); v != none {
						t.Errorf("Settle(%v, %v): %v", n, results, v)
					}
				}
			}
		}
	}
}

// TestNilHeap covers P16.8 for a nil heap.
func TestNilHeap(t *testing.T) {
	v, w := object(api.Table, 1), object(api.Table, 2)
	wantNeed(t, "+", operate.Binary(nil, api.OpAdd, v, num(1)), failing("attempt to perform arithmetic on a table value"))
	wantNeed(t, "+", operate.Binary(nil, api.OpAdd, num(1), num(2)), done(num(3)))
	wantNeed(t, "==", operate.Binary(nil, api.OpEq, v, w), done(no))
	wantNeed(t, "==", operate.Binary(nil, api.OpEq, v, v), done(yes))
	wantNeed(t, "<", operate.Binary(nil, api.OpLt, v, w), failing("attempt to compare two table values"))
	wantNeed(t, "..", operate.Binary(nil, api.OpConcat, v, w), failing("attempt to concatenate a table value"))
	wantNeed(t, "-", operate.Unary(nil, api.OpNeg, v), failing("attempt to perform arithmetic on a table value"))
	wantNeed(t, "not", operate.Unary(nil, api.OpNot, v), done(no))
	wantNeed(t, "#", operate.Unary(nil, api.OpLen, v), meta.Length(nil, v))
	wantNeed(t, "#", operate.Unary(nil, api.OpLen, v), done(num(0)))
	wantNeed(t, "~", operate.Unary(nil, api.OpBnot, object(api.Data, 1)), failing("attempt to perform bitwise operation on a userdata value"))
}
