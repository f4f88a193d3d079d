package stack_test

import (
	"math"
	"slices"
	"strings"
	"testing"

	"scripting/api"
	"scripting/stack"
	"scripting/value"
)

// none is the value nil.
var none = api.Value{}

// num returns an integer as a value.
func num(n int) api.Value { return api.Value{Kind: api.Number, Num: api.Num{P: n, Q: 1}} }

// str returns a string as a value.
func str(s string) api.Value { return api.Value{Kind: api.String, Str: s} }

// nums returns integers as values.
func nums(list ...int) []api.Value {
	values := make([]api.Value, 0, len(list))
	for _, n := range list {
		values = append(values, num(n))
	}
	return values
}

// valid returns a valid value of each kind.
func valid() []api.Value {
	return []api.Value{none, {Kind: api.Bool}, {Kind: api.Bool, Ref: 1}, num(-api.MaxNum), {Kind: api.Number, Num: api.Num{P: 1, Q: 3}}, str(""), str(strings.Repeat("x", api.MaxString)),
		{Kind: api.Table, Ref: 1}, {Kind: api.Function, Ref: math.MaxInt}, {Kind: api.Builtin, Str: "f"}, {Kind: api.Thread, Ref: 2}, {Kind: api.Data, Ref: 3}}
}

// invalid returns values that are not valid.
func invalid() []api.Value {
	return []api.Value{{Ref: 1}, {Kind: api.Bool, Ref: 2}, {Kind: api.Number}, {Kind: api.Number, Num: api.Num{P: 2, Q: 2}}, num(api.MaxNum + 1), str(strings.Repeat("x", api.MaxString+1)), {Kind: api.String, Ref: 1},
		{Kind: api.Table}, {Kind: api.Function, Ref: -1}, {Kind: api.Builtin}, {Kind: api.Thread, Ref: 1, Str: "x"}, {Kind: api.Data, Ref: 1, Num: api.Num{Q: 1}}, {Kind: -1}, {Kind: api.Data + 1, Ref: 1}}
}

// want checks the error of a call.
func want(t *testing.T, call string, e, want api.Errno) {
	t.Helper()
	if e != want {
		t.Errorf("%s: error %d; want %d", call, int(e), int(want))
	}
}

// fill returns a stack with some values.
func fill(t *testing.T, limit int, list ...api.Value) *stack.Stack {
	t.Helper()
	o, e := stack.New(limit)
	want(t, "New", e, api.OK)
	for _, v := range list {
		want(t, "Push", o.Push(v), api.OK)
	}
	return o
}

// texts returns the beginning of a list of values as a text.
func texts(list []api.Value) string {
	var all []string
	for _, v := range list[:min(len(list), 20)] {
		s := value.Text(v)
		all = append(all, s[:min(len(s), 20)])
	}
	return "[" + strings.Join(all, " ") + "]"
}

// wantList checks the values of a stack.
func wantList(t *testing.T, call string, o *stack.Stack, list ...api.Value) {
	t.Helper()
	if got := o.List(); !slices.Equal(got, list) || o.Top() != len(list) {
		t.Errorf("%s: %s, Top %d; want %s", call, texts(got), o.Top(), texts(list))
	}
}

// wantAbs checks Abs.
func wantAbs(t *testing.T, o *stack.Stack, i, want int, wantE api.Errno) {
	t.Helper()
	if n, e := o.Abs(i); n != want || e != wantE {
		t.Errorf("Abs(%d): %d, error %d; want %d, error %d", i, n, int(e), want, int(wantE))
	}
}

// wantAt checks At.
func wantAt(t *testing.T, o *stack.Stack, i int, want api.Value, wantE api.Errno) {
	t.Helper()
	if v, e := o.At(i); v != want || e != wantE {
		t.Errorf("At(%d): %s, error %d; want %s, error %d", i, texts([]api.Value{v}), int(e), texts([]api.Value{want}), int(wantE))
	}
}

// TestNew covers P17.1.
func TestNew(t *testing.T) {
	for _, limit := range []int{math.MinInt, -1000, -1, 0, api.MaxStack + 1, 1 << 32, 1<<32 + 1, math.MaxInt} {
		if o, e := stack.New(limit); o != nil || e != api.ErrArg {
			t.Errorf("New(%d): %v, error %d", limit, o, int(e))
		}
	}
	for limit := 1; limit <= api.MaxStack; limit++ {
		o, e := stack.New(limit)
		if o == nil || e != api.OK || o.Top() != 0 || len(o.List()) != 0 {
			t.Fatalf("New(%d): %v, error %d", limit, o, int(e))
		}
		want(t, "Room", o.Room(limit), api.OK)
		want(t, "Room", o.Room(limit+1), api.ErrFull)
	}
}

// TestPush covers P17.2 for Push: all kinds of values, and none that is not valid, also if the stack is full.
func TestPush(t *testing.T) {
	list := valid()
	o := fill(t, len(list)+1, list...)
	wantList(t, "Push", o, list...)
	for range 2 {
		for _, v := range invalid() {
			want(t, "Push", o.Push(v), api.ErrArg)
		}
		wantList(t, "Push", o, list...)
		if len(list) == len(valid()) {
			want(t, "Push", o.Push(num(7)), api.OK)
			list = append(list, num(7))
		}
	}
	want(t, "Push", o.Push(num(8)), api.ErrFull)
	want(t, "Push", o.Push(none), api.ErrFull)
	wantList(t, "Push", o, list...)
}

// TestFull covers P17.2 and P17.8 for stacks with as many values as the limit.
func TestFull(t *testing.T) {
	for _, limit := range []int{1, 2, 3, api.MaxStack - 1, api.MaxStack} {
		o := fill(t, limit)
		for i := range limit {
			want(t, "Push", o.Push(num(i)), api.OK)
		}
		want(t, "Push", o.Push(num(limit)), api.ErrFull)
		want(t, "SetTop", o.SetTop(limit+1), api.ErrRange)
		if v, e := o.At(-1); o.Top() != limit || v != num(limit-1) || e != api.OK {
			t.Errorf("limit %d: Top %d, top value %v", limit, o.Top(), v)
		}
		want(t, "Pop", o.Pop(1), api.OK)
		want(t, "Push", o.Push(num(limit)), api.OK)
		wantAt(t, o, limit, num(limit), api.OK)
		want(t, "Push", o.Push(num(limit)), api.ErrFull)
	}
}

// TestExample1 is the example of the chapter.
func TestExample1(t *testing.T) {
	o := fill(t, 2, nums(1, 2)...)
	want(t, "Push", o.Push(num(3)), api.ErrFull)
	want(t, "Pop", o.Pop(3), api.ErrEmpty)
	wantList(t, "Pop", o, nums(1, 2)...)
}

// TestPop covers P17.2 for Pop.
func TestPop(t *testing.T) {
	for n := range 5 {
		o := fill(t, 9, nums(1, 2, 3, 4)...)
		want(t, "Pop", o.Pop(n), api.OK)
		wantList(t, "Pop", o, nums(1, 2, 3, 4)[:4-n]...)
		want(t, "Pop", o.Pop(5-n), api.ErrEmpty)
		want(t, "Pop", o.Pop(-1), api.ErrArg)
		wantList(t, "Pop", o, nums(1, 2, 3, 4)[:4-n]...)
	}
	o := fill(t, 9, nums(1, 2)...)
	for n, e := range map[int]api.Errno{math.MinInt: api.ErrArg, -1: api.ErrArg, 3: api.ErrEmpty, 9: api.ErrEmpty, 10: api.ErrEmpty, math.MaxInt: api.ErrEmpty} {
		want(t, "Pop", o.Pop(n), e)
		wantList(t, "Pop", o, nums(1, 2)...)
	}
}

// TestSetTop covers P17.2 for SetTop: values that were removed do not come back.
func TestSetTop(t *testing.T) {
	for n := range 7 {
		o := fill(t, 6, nums(1, 2, 3)...)
		want(t, "SetTop", o.SetTop(n), api.OK)
		wantList(t, "SetTop", o, append(nums(1, 2, 3), none, none, none)[:n]...)
		want(t, "SetTop", o.SetTop(6), api.OK)
		wantList(t, "SetTop", o, append(nums(1, 2, 3)[:min(n, 3)], make([]api.Value, 6-min(n, 3))...)...)
	}
	o := fill(t, 6, nums(1, 2, 3)...)
	for _, n := range []int{math.MinInt, -2, -1, 7, 8, math.MaxInt} {
		want(t, "SetTop", o.SetTop(n), api.ErrRange)
		wantList(t, "SetTop", o, nums(1, 2, 3)...)
	}
	want(t, "Pop", o.Pop(2), api.OK)
	want(t, "SetTop", o.SetTop(3), api.OK)
	wantList(t, "SetTop", o, num(1), none, none)
}

// TestIndices covers P17.3 for all stacks with up to four values: what an index is, and which position it is.
func TestIndices(t *testing.T) {
	for n := range 5 {
		o := fill(t, 9, nums(7, 8, 9, 10)[:n]...)
		for i := -12; i <= 12; i++ {
			switch {
			case i >= 1 && i <= n:
				wantAbs(t, o, i, i, api.OK)
				wantAt(t, o, i, num(6+i), api.OK)
			case i <= -1 && i >= -n:
				wantAbs(t, o, i, n+i+1, api.OK)
				wantAt(t, o, i, num(6+n+i+1), api.OK)
			default:
				wantNoIndex(t, o, i)
			}
		}
		for _, i := range []int{math.MinInt, math.MinInt + 1, math.MinInt + 2, -1 << 32, 1 << 32, 1<<32 + 1, math.MaxInt - 1, math.MaxInt} {
			wantNoIndex(t, o, i)
		}
	}
}

// wantNoIndex checks that a number is no index of a stack, for all methods with an index.
func wantNoIndex(t *testing.T, o *stack.Stack, i int) {
	t.Helper()
	list := o.List()
	wantAbs(t, o, i, 0, api.ErrRange)
	wantAt(t, o, i, none, api.ErrRange)
	want(t, "Put", o.Put(i, num(1)), api.ErrRange)
	want(t, "Put", o.Put(i, api.Value{Kind: -1}), api.ErrRange)
	want(t, "Insert", o.Insert(i), api.ErrRange)
	want(t, "Remove", o.Remove(i), api.ErrRange)
	want(t, "Rotate", o.Rotate(i, 0), api.ErrRange)
	want(t, "Rotate", o.Rotate(i, 1), api.ErrRange)
	want(t, "Copy", o.Copy(i, 1), api.ErrRange)
	want(t, "Copy", o.Copy(1, i), api.ErrRange)
	want(t, "Copy", o.Copy(i, i), api.ErrRange)
	wantList(t, "no index", o, list...)
}

// TestExampleOfAbs is the example of P17.3.
func TestExampleOfAbs(t *testing.T) {
	o := fill(t, 3, nums(7, 8, 9)...)
	wantAbs(t, o, -2, 2, api.OK)
	wantAt(t, o, -2, num(8), api.OK)
}

// TestPut covers P17.3 for Put.
func TestPut(t *testing.T) {
	o := fill(t, 3, nums(7, 8, 9)...)
	for _, v := range valid() {
		want(t, "Put", o.Put(2, v), api.OK)
		wantList(t, "Put", o, num(7), v, num(9))
	}
	want(t, "Put", o.Put(-1, num(3)), api.OK)
	want(t, "Put", o.Put(-3, num(1)), api.OK)
	want(t, "Put", o.Put(2, num(2)), api.OK)
	for _, v := range invalid() {
		for _, i := range []int{1, 3, -1, -3} {
			want(t, "Put", o.Put(i, v), api.ErrArg)
		}
		for _, i := range []int{0, 4, -4} { // the index comes first
			want(t, "Put", o.Put(i, v), api.ErrRange)
		}
		wantList(t, "Put", o, nums(1, 2, 3)...)
	}
}

// TestInsert covers P17.4 for Insert.
func TestInsert(t *testing.T) {
	for i, list := range map[int][]int{1: {4, 1, 2, 3}, 2: {1, 4, 2, 3}, 3: {1, 2, 4, 3}, 4: {1, 2, 3, 4}, -1: {1, 2, 3, 4}, -2: {1, 2, 4, 3}, -3: {1, 4, 2, 3}, -4: {4, 1, 2, 3}} {
		o := fill(t, 4, nums(1, 2, 3, 4)...)
		want(t, "Insert", o.Insert(i), api.OK)
		wantList(t, "Insert", o, nums(list...)...)
	}
}

// TestRemove covers P17.4 for Remove.
func TestRemove(t *testing.T) {
	for i, list := range map[int][]int{1: {2, 3, 4}, 2: {1, 3, 4}, 3: {1, 2, 4}, 4: {1, 2, 3}, -1: {1, 2, 3}, -2: {1, 2, 4}, -3: {1, 3, 4}, -4: {2, 3, 4}} {
		o := fill(t, 4, nums(1, 2, 3, 4)...)
		want(t, "Remove", o.Remove(i), api.OK)
		wantList(t, "Remove", o, nums(list...)...)
		want(t, "Push", o.Push(num(5)), api.OK)
		wantList(t, "Push", o, nums(append(list, 5)...)...)
	}
	o := fill(t, 1, num(1))
	want(t, "Remove", o.Remove(1), api.OK)
	wantList(t, "Remove", o)
	want(t, "Remove", o.Remove(1), api.ErrRange)
}

// TestRotate covers P17.4 for Rotate, with the examples of the chapter.
func TestRotate(t *testing.T) {
	for _, c := range []struct {
		i, n int
		list []int
	}{
		{2, 1, []int{1, 4, 2, 3}}, {1, -1, []int{2, 3, 4, 1}}, {1, 1, []int{4, 1, 2, 3}}, {1, 2, []int{3, 4, 1, 2}}, {1, 3, []int{2, 3, 4, 1}}, {-2, 1, []int{1, 2, 4, 3}}, {3, -1, []int{1, 2, 4, 3}},
		{2, -1, []int{1, 3, 4, 2}}, {2, 2, []int{1, 3, 4, 2}}, {2, 3, []int{1, 2, 3, 4}}, {2, -3, []int{1, 2, 3, 4}}, {1, 0, []int{1, 2, 3, 4}}, {1, 4, []int{1, 2, 3, 4}}, {1, -4, []int{1, 2, 3, 4}}, {1, 5, []int{4, 1, 2, 3}},
		{4, 1, []int{1, 2, 3, 4}}, {-1, math.MinInt, []int{1, 2, 3, 4}}, {-4, math.MinInt, []int{1, 2, 3, 4}}, {1, math.MaxInt, []int{2, 3, 4, 1}}, {2, math.MaxInt, []int{1, 4, 2, 3}}, {2, math.MinInt, []int{1, 4, 2, 3}}, // both are 1 modulo 3
	} {
		o := fill(t, 4, nums(1, 2, 3, 4)...)
		want(t, "Rotate", o.Rotate(c.i, c.n), api.OK)
		wantList(t, "Rotate", o, nums(c.list...)...)
	}
}

// TestCopy covers P17.4 for Copy, for all pairs of indices.
func TestCopy(t *testing.T) {
	for from := -4; from <= 4; from++ {
		for to := -4; to <= 4; to++ {
			list := nums(1, 2, 3, 4)
			o := fill(t, 4, list...)
			wantE := api.OK
			if from == 0 || to == 0 {
				wantE = api.ErrRange
			} else {
				list[(to+5)%5-1] = list[(from+5)%5-1]
			}
			want(t, "Copy", o.Copy(from, to), wantE)
			wantList(t, "Copy", o, list...)
		}
	}
}

// TestRoom covers P17.5 for Room.
func TestRoom(t *testing.T) {
	for top := range 4 {
		o := fill(t, 3, nums(1, 2, 3)[:top]...)
		for n := range 3 - top + 1 {
			want(t, "Room", o.Room(n), api.OK)
		}
		for _, n := range []int{4 - top, 4, 1000, math.MaxInt - 3, math.MaxInt - 1, math.MaxInt} {
			want(t, "Room", o.Room(n), api.ErrFull)
		}
		for _, n := range []int{-1, -2, -4, math.MinInt} {
			want(t, "Room", o.Room(n), api.ErrArg)
		}
		wantList(t, "Room", o, nums(1, 2, 3)[:top]...)
	}
}

// TestListIsNew covers P17.5 for List: its result shares no memory with the stack.
func TestListIsNew(t *testing.T) {
	o := fill(t, 4, nums(1, 2, 3)...)
	list, other := o.List(), o.List()
	list[0] = num(9)
	_ = append(list, num(9))
	want(t, "Push", o.Push(num(4)), api.OK)
	wantList(t, "List", o, nums(1, 2, 3, 4)...)
	want(t, "Put", o.Put(2, num(7)), api.OK)
	if !slices.Equal(other, nums(1, 2, 3)) {
		t.Errorf("the list became %v", other)
	}
}

// TestTwoStacks checks that two stacks have nothing in common.
func TestTwoStacks(t *testing.T) {
	a, b := fill(t, 3, nums(1, 2)...), fill(t, 2, nums(3)...)
	want(t, "Insert", a.Insert(1), api.OK)
	want(t, "Push", b.Push(num(4)), api.OK)
	want(t, "Pop", a.Pop(1), api.OK)
	wantList(t, "Pop", a, nums(2)...)
	wantList(t, "Push", b, nums(3, 4)...)
}

// calls returns all methods that return an error, with arguments that would be right, by their names.
func calls(o *stack.Stack) map[string]func() api.Errno {
	return map[string]func() api.Errno{
		"Push":   func() api.Errno { return o.Push(num(1)) },
		"Pop":    func() api.Errno { return o.Pop(0) },
		"SetTop": func() api.Errno { return o.SetTop(0) },
		"Abs":    func() api.Errno { _, e := o.Abs(1); return e },
		"At":     func() api.Errno { _, e := o.At(1); return e },
		"Put":    func() api.Errno { return o.Put(1, num(1)) },
		"Insert": func() api.Errno { return o.Insert(1) },
		"Remove": func() api.Errno { return o.Remove(1) },
		"Rotate": func() api.Errno { return o.Rotate(1, 1) },
		"Copy":   func() api.Errno { return o.Copy(1, 1) },
		"Room":   func() api.Errno { return o.Room(0) },
	}
}

// TestNil covers the nil Stack, for which all other errors do not count.
func TestNil(t *testing.T) {
	var o *stack.Stack
	for name, call := range calls(o) {
		want(t, name, call(), api.ErrNil)
	}
	wantAbs(t, o, 1, 0, api.ErrNil)
	wantAt(t, o, 1, none, api.ErrNil)
	want(t, "Push", o.Push(api.Value{Ref: 1}), api.ErrNil)
	want(t, "Pop", o.Pop(-1), api.ErrNil)
	want(t, "SetTop", o.SetTop(-1), api.ErrNil)
	want(t, "Put", o.Put(0, api.Value{Ref: 1}), api.ErrNil)
	want(t, "Room", o.Room(-1), api.ErrNil)
	wantList(t, "nil", o)
}

// TestZero checks that a Stack that is not created by New is one without room.
func TestZero(t *testing.T) {
	o := &stack.Stack{}
	for name, call := range calls(o) {
		wantE := api.ErrRange
		switch name {
		case "Push":
			wantE = api.ErrFull
		case "Pop", "SetTop", "Room":
			wantE = api.OK
		}
		want(t, name, call(), wantE)
	}
	wantList(t, "zero", o)
}
