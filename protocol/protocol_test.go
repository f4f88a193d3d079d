package protocol_test

import (
	"math"
	"reflect"
	"slices"
	"strings"
	"testing"

	"scripting/api"
	"scripting/protocol"
)

// none is the value nil.
var none = api.Value{}

// num returns an integer as a value.
func num(n int) api.Value { return api.Value{Kind: api.Number, Num: api.Num{P: n, Q: 1}} }

// str returns a string as a value.
func str(s string) api.Value { return api.Value{Kind: api.String, Str: s} }

// host returns a function of the host as a value.
func host(name string) api.Value { return api.Value{Kind: api.Builtin, Str: name} }

// nums returns so many integers, beginning with 1.
func nums(n int) []api.Value {
	var list []api.Value
	for i := range n {
		list = append(list, num(i+1))
	}
	return list
}

// valid returns valid values of each kind.
func valid() []api.Value {
	return []api.Value{none, {Kind: api.Bool}, {Kind: api.Bool, Ref: 1}, num(-api.MaxNum), {Kind: api.Number, Num: api.Num{P: 1, Q: 3}}, str(""), str(strings.Repeat("x", api.MaxString)),
		{Kind: api.Table, Ref: 1}, {Kind: api.Function, Ref: math.MaxInt}, host("f"), {Kind: api.Thread, Ref: 2}, {Kind: api.Data, Ref: 3}}
}

// invalid returns values that are not valid.
func invalid() []api.Value {
	return []api.Value{{Ref: 1}, {Kind: api.Bool, Ref: 2}, {Kind: api.Number}, {Kind: api.Number, Num: api.Num{P: 2, Q: 2}}, num(api.MaxNum + 1), str(strings.Repeat("x", api.MaxString+1)), {Kind: api.String, Ref: 1},
		{Kind: api.Table}, {Kind: api.Function, Ref: -1}, {Kind: api.Builtin}, {Kind: api.Thread, Ref: 1, Str: "x"}, {Kind: api.Data, Ref: 1, Num: api.Num{Q: 1}}, {Kind: -1}, {Kind: api.Data + 1, Ref: 1}}
}

// brief returns a value without the rest of a long string.
func brief(v api.Value) api.Value {
	v.Str = v.Str[:min(len(v.Str), 20)]
	return v
}

// shown returns an action without the rests of long strings and lists.
func shown(a api.Action) api.Action {
	a.Func, a.Str = brief(a.Func), a.Str[:min(len(a.Str), 20)]
	for _, list := range []*[]api.Value{&a.Values, &a.Keep} {
		*list = slices.Clone((*list)[:min(len(*list), 5)])
		for i, v := range *list {
			(*list)[i] = brief(v)
		}
	}
	return a
}

// same reports whether two actions have equal fields: each field is compared on its own, a list by its elements.
func same(a, b api.Action) bool {
	x, y := reflect.ValueOf(a), reflect.ValueOf(b)
	for i := range x.NumField() {
		equal := reflect.DeepEqual(x.Field(i).Interface(), y.Field(i).Interface())
		if x.Field(i).Kind() == reflect.Slice && x.Field(i).Len() == 0 {
			equal = y.Field(i).Len() == 0
		}
		if !equal {
			return false
		}
	}
	return true
}

// want checks an action.
func want(t *testing.T, call string, a, want api.Action) {
	t.Helper()
	if !same(a, want) {
		t.Errorf("%s: %v; want %v", call, shown(a), shown(want))
	}
}

// wantCheck checks Check.
func wantCheck(t *testing.T, a api.Action, want api.Errno) {
	t.Helper()
	if e := protocol.Check(a); e != want {
		t.Errorf("Check(%v): error %d; want %d", shown(a), int(e), int(want))
	}
}

// numbers returns numbers in and out of the ranges of Level and Next.
func numbers() []int {
	return []int{math.MinInt, -1 << 32, -256, -1, 0, 1, 7, 254, 255, 256, 257, 1 << 32, 1<<32 + 1, math.MaxInt}
}

// lists returns lists of values, some of them not valid or too long.
func lists() [][]api.Value {
	return [][]api.Value{nil, {}, {none}, {none, none}, valid(), invalid(), nums(32), nums(33), nums(200), nums(201), nums(1000)}
}

// TestReturn covers P20.1 for Return.
func TestReturn(t *testing.T) {
	want(t, "Return", protocol.Return(), api.Action{Kind: api.ActReturn})
	want(t, "Return", protocol.Return(num(1), none, str("x")), api.Action{Kind: api.ActReturn, Values: []api.Value{num(1), none, str("x")}})
	for _, l := range lists() {
		want(t, "Return", protocol.Return(l...), api.Action{Kind: api.ActReturn, Values: l})
	}
}

// TestFail covers P20.1 for Fail: also arguments that Check does not accept.
func TestFail(t *testing.T) {
	for _, v := range append(valid(), invalid()...) {
		for _, level := range numbers() {
			want(t, "Fail", protocol.Fail(v, level), api.Action{Kind: api.ActFail, Values: []api.Value{v}, Level: level})
		}
	}
}

// TestError covers P20.1 for Error: the example, and texts that are cut to as many bytes as a string may have.
func TestError(t *testing.T) {
	want(t, "Error", protocol.Error("no"), api.Action{Kind: api.ActFail, Values: []api.Value{str("no")}, Level: 1})
	long := strings.Repeat("x", api.MaxString-2)
	two := "\u00e9"
	for text, cut := range map[string]string{"": "", "7: no\x00": "7: no\x00", long: long, long + "a": long + "a", long + "ab": long + "ab", long + "abc": long + "ab", long + "a" + two: long + "a" + two[:1], long + long: long + "xx", strings.Repeat("y", 1<<20): strings.Repeat("y", api.MaxString)} {
		want(t, "Error", protocol.Error(text), api.Action{Kind: api.ActFail, Values: []api.Value{str(cut)}, Level: 1})
		want(t, "Error", protocol.Error(text), protocol.Fail(str(cut), 1))
		wantCheck(t, protocol.Error(text), api.OK)
	}
}

// TestCallTryYield covers P20.2: also arguments that Check does not accept.
func TestCallTryYield(t *testing.T) {
	for _, f := range append(valid(), invalid()...) {
		want(t, "Call", protocol.Call(f, nums(2), 7), api.Action{Kind: api.ActCall, Func: f, Values: nums(2), Next: 7})
		want(t, "Try", protocol.Try(f, nums(2), 7), api.Action{Kind: api.ActTry, Func: f, Values: nums(2), Next: 7})
	}
	f := host("print")
	for _, l := range lists() {
		for _, next := range numbers() {
			for _, keep := range lists() {
				want(t, "Call", protocol.Call(f, l, next, keep...), api.Action{Kind: api.ActCall, Func: f, Values: l, Next: next, Keep: keep})
				want(t, "Try", protocol.Try(f, l, next, keep...), api.Action{Kind: api.ActTry, Func: f, Values: l, Next: next, Keep: keep})
				want(t, "Yield", protocol.Yield(l, next, keep...), api.Action{Kind: api.ActYield, Values: l, Next: next, Keep: keep})
			}
		}
	}
}

// TestCheck covers P20.3: the example, and actions of all kinds that are accepted.
func TestCheck(t *testing.T) {
	wantCheck(t, api.Action{Kind: api.ActReturn, Next: 1}, api.ErrForm)
	f, text := host("f"), strings.Repeat("x", api.MaxText)
	for _, a := range []api.Action{
		{Kind: api.ActReturn}, {Kind: api.ActReturn, Values: []api.Value{}, Keep: []api.Value{}}, {Kind: api.ActReturn, Values: valid()}, {Kind: api.ActReturn, Values: nums(200)},
		{Kind: api.ActFail, Values: []api.Value{none}}, {Kind: api.ActFail, Values: nums(1), Level: 255},
		{Kind: api.ActCall}, {Kind: api.ActCall, Func: f, Values: nums(200), Next: 255, Keep: nums(32)}, {Kind: api.ActTry}, {Kind: api.ActTry, Func: f, Values: nums(200), Next: 255, Keep: nums(32)},
		{Kind: api.ActYield}, {Kind: api.ActYield, Values: nums(200), Next: 255, Keep: nums(32)}, {Kind: api.ActThread, Op: api.ThreadCreate, Values: nums(200)}, {Kind: api.ActThread, Op: api.ThreadCanYield},
		{Kind: api.ActCollect}, {Kind: api.ActCollect, Next: 255, Keep: nums(32)}, {Kind: api.ActPrint}, {Kind: api.ActPrint, Str: text}, {Kind: api.ActLoad}, {Kind: api.ActLoad, Str: text, Next: 255, Keep: nums(32)},
	} {
		wantCheck(t, a, api.OK)
	}
	for _, kind := range []int{math.MinInt, -1, 0, api.ActLoad + 1, api.ActLoad + 2, 1 << 32, 1<<32 + 1, math.MaxInt} {
		wantCheck(t, api.Action{Kind: kind}, api.ErrForm)
	}
}

// TestCheckOrder covers P20.3 for actions with several errors: the first one in the order of the chapter counts.
func TestCheckOrder(t *testing.T) {
	bad := api.Value{Kind: -1}
	long := strings.Repeat("x", api.MaxText+1)
	many, much := append(nums(200), bad), append(nums(32), bad)
	for _, x := range []struct {
		a    api.Action
		want api.Errno
	}{
		{api.Action{Kind: api.ActCall, Func: bad, Values: many, Next: 256, Keep: much}, api.ErrForm}, {api.Action{Kind: api.ActCall, Func: bad, Values: many, Keep: much}, api.ErrLimit}, {api.Action{Kind: api.ActCall, Func: bad, Values: many}, api.ErrLimit},
		{api.Action{Kind: api.ActCall, Func: bad, Keep: much}, api.ErrLimit}, {api.Action{Kind: api.ActCall, Func: bad}, api.ErrArg}, {api.Action{Kind: api.ActCall, Values: many[1:]}, api.ErrArg}, {api.Action{Kind: api.ActTry, Keep: much[1:]}, api.ErrArg},
		{api.Action{Kind: api.ActFail, Values: many}, api.ErrForm}, {api.Action{Kind: api.ActFail, Values: []api.Value{bad, bad}}, api.ErrForm}, {api.Action{Kind: api.ActFail, Values: []api.Value{bad}, Level: 256}, api.ErrForm}, {api.Action{Kind: api.ActFail, Values: []api.Value{bad}}, api.ErrArg},
		{api.Action{Kind: api.ActReturn, Func: bad}, api.ErrForm}, {api.Action{Kind: api.ActReturn, Str: long}, api.ErrForm}, {api.Action{Kind: api.ActReturn, Values: many, Keep: much}, api.ErrForm}, {api.Action{Kind: api.ActThread, Values: many}, api.ErrForm},
		{api.Action{Kind: api.ActLoad, Str: long, Next: -1}, api.ErrForm}, {api.Action{Kind: api.ActLoad, Str: long, Keep: nums(33)}, api.ErrLimit}, {api.Action{Kind: api.ActLoad, Str: long, Keep: []api.Value{bad}}, api.ErrArg}, {api.Action{Kind: api.ActLoad, Str: long}, api.ErrLong},
		{api.Action{Kind: api.ActPrint, Str: long}, api.ErrLong}, {api.Action{Kind: api.ActPrint, Str: long, Values: many}, api.ErrForm},
	} {
		wantCheck(t, x.a, x.want)
	}
}

// TestSame covers P20.4 for Same: every field counts, and of the lists the number and the order of the elements.
func TestSame(t *testing.T) {
	list := []api.Action{{}, {Kind: 1}, {Kind: 2}, {Kind: -1}, {Op: 1}, {Op: 2}, {Str: "x"}, {Str: "y"}, {Str: "xx"}, {Level: 1}, {Level: -1}, {Next: 1}, {Next: 256}, {Kind: 1, Op: 1, Level: 1, Next: 1}}
	values := []api.Value{none, {Kind: api.Bool}, num(1), {Kind: api.Number, Num: api.Num{P: 1, Q: 2}}, str(""), str("x"), {Kind: api.String, Ref: 1}, {Kind: api.Table, Ref: 1}, {Kind: api.Table, Ref: 2}}
	for _, v := range values {
		one := []api.Value{v}
		list = append(list, api.Action{Values: one}, api.Action{Keep: one}, api.Action{Kind: 1, Values: one, Keep: one})
		if v != none {
			list = append(list, api.Action{Func: v})
		}
		for _, x := range values {
			two := []api.Value{v, x}
			list = append(list, api.Action{Values: two}, api.Action{Keep: two}, api.Action{Values: two, Keep: one})
		}
	}
	for i, a := range list {
		for j, b := range list {
			b.Values, b.Keep = append(make([]api.Value, 0, 9), b.Values...), append(make([]api.Value, 0, 9), b.Keep...) // other memory; never nil
			if protocol.Same(a, b) != (i == j) {
				t.Errorf("Same(%v, %v): %v", a, b, i != j)
			}
		}
	}
}

// TestArg covers P20.4 for Arg.
func TestArg(t *testing.T) {
	all := append(invalid(), valid()...)
	for n := range len(all) + 1 {
		args := all[:n] // what is behind its end is no argument
		for i, v := range args {
			if got := protocol.Arg(args, i); got != v {
				t.Errorf("Arg(%d of %d): %v; want %v", i, n, brief(got), brief(v))
			}
		}
		for _, i := range []int{math.MinInt, -1 << 32, -n - 1, -n, -1, n, n + 1, 1 << 32, math.MaxInt} {
			if i < 0 || i >= n {
				if got := protocol.Arg(args, i); got != none {
					t.Errorf("Arg(%d of %d): %v; want nil", i, n, brief(got))
				}
			}
		}
	}
	if got := protocol.Arg(nil, 0); got != none {
		t.Errorf("Arg(0 of none): %v; want nil", got)
	}
}

// TestNeed covers P20.5: for each kind only the fields of the need that belong to it count.
func TestNeed(t *testing.T) {
	f, long := host("f"), strings.Repeat("x", api.MaxString+1)
	for _, v := range append(valid(), invalid()...) {
		for _, args := range lists() {
			for _, s := range []string{"", "no", long} {
				for _, next := range []int{-1, 0, 7, 256} {
					n := api.Need{Value: v, Func: f, Args: args, After: api.AfterOne, Str: s}
					for kind, a := range map[int]api.Action{
						api.NeedValue: protocol.Return(v), api.NeedCall: protocol.Call(f, args, next, num(1), v), api.NeedError: protocol.Error(s),
						math.MinInt: protocol.Return(), -1: protocol.Return(), 0: protocol.Return(), api.NeedError + 1: protocol.Return(), math.MaxInt: protocol.Return(),
					} {
						n.Kind = kind
						want(t, "Need", protocol.Need(n, next, num(1), v), a)
					}
				}
			}
		}
	}
	want(t, "Need", protocol.Need(api.Need{Kind: api.NeedCall, Func: f}, 3), api.Action{Kind: api.ActCall, Func: f, Next: 3})
	want(t, "Need", protocol.Need(api.Need{}, 3, num(1)), api.Action{Kind: api.ActReturn})
	for after := range 6 { // what becomes of the results does not matter here
		want(t, "Need", protocol.Need(api.Need{Kind: api.NeedCall, Func: f, Args: nums(2), After: after}, 3), protocol.Call(f, nums(2), 3))
	}
}
