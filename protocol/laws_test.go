package protocol_test

import (
	"math"
	"reflect"
	"slices"
	"strings"
	"testing"

	"scripting/api"
	"scripting/protocol"
	"scripting/value"
)

// fieldsOf returns the names of the fields of a kind of action, as the chapter lists them, and whether the kind exists.
func fieldsOf(kind int) ([]string, bool) {
	fields, exists := map[int]string{
		api.ActReturn: "Values", api.ActFail: "Values Level", api.ActCall: "Func Values Next Keep", api.ActTry: "Func Values Next Keep", api.ActYield: "Values Next Keep", api.ActThread: "Op Values",
		api.ActCollect: "Next Keep", api.ActPrint: "Str", api.ActLoad: "Str Next Keep",
	}[kind]
	return strings.Fields(fields), exists
}

// wellFormed reports whether an action has only the fields of its kind, and these are in range: the fields are looked up by
// their names.
func wellFormed(a api.Action) bool {
	names, exists := fieldsOf(a.Kind)
	if !exists {
		return false
	}
	s := reflect.ValueOf(a)
	for i := range s.NumField() {
		name, f := s.Type().Field(i).Name, s.Field(i)
		isZero := f.IsZero() || f.Kind() == reflect.Slice && f.Len() == 0
		if name != "Kind" && !slices.Contains(names, name) && !isZero {
			return false
		}
		least, most := 0, math.MaxInt
		switch {
		case name == "Op" && a.Kind == api.ActThread:
			least, most = api.ThreadCreate, api.ThreadCanYield
		case name == "Level" || name == "Next":
			most = 255
		}
		if f.CanInt() && (f.Int() < int64(least) || f.Int() > int64(most)) {
			return false
		}
	}
	return a.Kind != api.ActFail || len(a.Values) == 1
}

// errorOf returns what Check returns, as P20.3 defines it.
func errorOf(a api.Action) api.Errno {
	isBad := func(v api.Value) bool { return !value.Valid(v) }
	switch {
	case !wellFormed(a):
		return api.ErrForm
	case len(a.Values) > 200 || len(a.Keep) > 32:
		return api.ErrLimit
	case slices.ContainsFunc(slices.Concat(a.Values, a.Keep, []api.Value{a.Func}), isBad):
		return api.ErrArg
	case len(a.Str) > 65536:
		return api.ErrLong
	}
	return api.OK
}

// TestCheckOfAll covers P20.3 for actions with all choices of fields out of a few.
func TestCheckOfAll(t *testing.T) {
	bad := api.Value{Kind: api.Table}
	counts := map[api.Errno]int{}
	for kind := -1; kind <= api.ActLoad+1; kind++ {
		for _, op := range []int{0, 1, api.ThreadCanYield, api.ThreadCanYield + 1, -1} {
			for _, f := range []api.Value{none, host("f"), bad} {
				for _, values := range [][]api.Value{nil, nums(1), nums(2), {bad}, nums(200), nums(201), append(nums(199), bad), append(nums(200), bad)} {
					for _, s := range []string{"", "x", strings.Repeat("x", api.MaxText), strings.Repeat("x", api.MaxText+1)} {
						for _, level := range []int{0, 1, 255, 256, -1} {
							for _, next := range []int{0, 1, 255, 256, -1} {
								for _, keep := range [][]api.Value{{}, nums(1), nums(32), nums(33), append(nums(31), bad)} {
									a := api.Action{Kind: kind, Op: op, Func: f, Values: values, Str: s, Level: level, Next: next, Keep: keep}
									e := errorOf(a)
									wantCheck(t, a, e)
									counts[e]++
								}
							}
						}
					}
				}
			}
		}
	}
	for _, e := range []api.Errno{api.OK, api.ErrForm, api.ErrLimit, api.ErrArg, api.ErrLong} {
		if counts[e] == 0 {
			t.Errorf("no action has the error %d", int(e))
		}
	}
}

// TestCheckOfEachValue covers P20.3 for each valid value and each other one, at each place of an action.
func TestCheckOfEachValue(t *testing.T) {
	for i, v := range append(valid(), invalid()...) {
		e := api.OK
		if i >= len(valid()) {
			e = api.ErrArg
		}
		for _, kind := range []int{api.ActCall, api.ActTry} {
			wantCheck(t, api.Action{Kind: kind, Func: v}, e)
		}
		wantCheck(t, api.Action{Kind: api.ActFail, Values: []api.Value{v}}, e)
		for at := range 4 {
			list := slices.Insert(nums(3), at, v)
			for _, a := range []api.Action{{Kind: api.ActReturn}, {Kind: api.ActCall}, {Kind: api.ActTry}, {Kind: api.ActYield}, {Kind: api.ActThread, Op: api.ThreadResume}} {
				a.Values = list
				wantCheck(t, a, e)
			}
			for _, kind := range []int{api.ActCall, api.ActTry, api.ActYield, api.ActCollect, api.ActLoad} {
				wantCheck(t, api.Action{Kind: kind, Keep: list}, e)
			}
		}
	}
}

// TestMadeActions is P20.6: Check accepts what the functions return for arguments within the ranges, and nothing else.
func TestMadeActions(t *testing.T) {
	for _, level := range numbers() {
		e := api.OK
		if level < 0 || level > 255 {
			e = api.ErrForm
		}
		for _, v := range valid() {
			wantCheck(t, protocol.Fail(v, level), e)
		}
	}
	for n := range 210 {
		l, keep := slices.Repeat(valid(), n/len(valid())+1)[:n], nums(n%40)
		wantMade(t, protocol.Return(l...), n <= 200)
		for _, next := range []int{0, 1, 255} {
			isGood := n <= 200 && len(keep) <= 32
			wantMade(t, protocol.Yield(l, next, keep...), isGood)
			for _, f := range valid() {
				wantMade(t, protocol.Call(f, l, next, keep...), isGood)
				wantMade(t, protocol.Try(f, l, next, keep...), isGood)
				wantMade(t, protocol.Need(api.Need{Kind: api.NeedCall, Func: f, Args: l}, next, keep...), isGood)
			}
		}
	}
}

// wantMade checks that Check accepts an action, or that it finds a list too long.
func wantMade(t *testing.T, a api.Action, isGood bool) {
	t.Helper()
	if isGood {
		wantCheck(t, a, api.OK)
	} else {
		wantCheck(t, a, api.ErrLimit)
	}
}

// TestNewMemory is P20.6: an action shares no memory with the arguments, nor do its two lists share some.
func TestNewMemory(t *testing.T) {
	f := host("f")
	for name, run := range map[string]func(l []api.Value) api.Action{
		"Return": func(l []api.Value) api.Action { return protocol.Return(l...) },
		"Call":   func(l []api.Value) api.Action { return protocol.Call(f, l, 1, l...) },
		"Try":    func(l []api.Value) api.Action { return protocol.Try(f, l, 1, l...) },
		"Yield":  func(l []api.Value) api.Action { return protocol.Yield(l, 1, l...) },
		"Need of calls": func(l []api.Value) api.Action {
			return protocol.Need(api.Need{Kind: api.NeedCall, Func: f, Args: l}, 1, l...)
		},
	} {
		given := nums(5)
		a, b := run(given[:3]), run(given[:3])
		a.Values[0] = f
		a.Values = append(a.Values, f)
		if len(a.Keep) > 0 && !slices.Equal(a.Keep, nums(3)) {
			t.Errorf("%s: a change of Values is seen in %v", name, a.Keep)
		}
		if len(a.Keep) > 0 {
			a.Keep[1] = f
			a.Keep = append(a.Keep, f)
		}
		if !slices.Equal(a.Values[1:3], nums(3)[1:]) || !slices.Equal(given, nums(5)) {
			t.Errorf("%s: a change of a result is seen in %v and %v", name, a.Values, given)
		}
		given[2] = f
		if !slices.Equal(b.Values, nums(3)) || len(b.Keep) > 0 && !slices.Equal(b.Keep, nums(3)) {
			t.Errorf("%s: a change of an argument or of another result is seen in %v", name, b)
		}
	}
}

// TestNothingIsChanged checks that Check, Same and Arg leave their arguments as they are.
func TestNothingIsChanged(t *testing.T) {
	made := func() api.Action {
		return api.Action{Kind: api.ActCall, Func: host("f"), Values: nums(3)[:2], Next: 1, Keep: nums(4)[:3]}
	}
	a, b := made(), made()
	protocol.Check(a)
	protocol.Same(a, b)
	protocol.Arg(a.Values, 1)
	for _, x := range []api.Action{a, b} {
		want(t, "the argument", x, made())
		if !slices.Equal(x.Values[:3], nums(3)) || !slices.Equal(x.Keep[:4], nums(4)) {
			t.Errorf("the memory behind the lists: %v, %v", x.Values[:3], x.Keep[:4])
		}
	}
}

// TestSameOfAll covers P20.4 for all pairs of actions that the functions return for a few arguments.
func TestSameOfAll(t *testing.T) {
	few := [][]api.Value{nil, {none}, {none, none}, {num(1)}, {num(1), num(2)}, {num(2), num(1)}}
	var list []api.Action
	for _, l := range few {
		list = append(list, protocol.Return(l...), api.Action{Kind: api.ActThread, Op: api.ThreadResume, Values: l}, api.Action{Kind: api.ActThread, Op: api.ThreadWrap, Values: l})
		for next := range 2 {
			list = append(list, api.Action{Kind: api.ActCollect, Next: next, Keep: l}, api.Action{Kind: api.ActLoad, Str: "x", Next: next, Keep: l}, api.Action{Kind: api.ActLoad, Str: "y", Next: next, Keep: l})
			for _, keep := range few {
				list = append(list, protocol.Yield(l, next, keep...))
				for _, f := range []api.Value{none, host("f"), {Kind: api.Function, Ref: 1}} {
					list = append(list, protocol.Call(f, l, next, keep...), protocol.Try(f, l, next, keep...))
				}
			}
		}
	}
	for level := range 3 {
		list = append(list, protocol.Fail(num(1), level), protocol.Fail(str("1"), level))
	}
	list = append(list, api.Action{Kind: api.ActPrint}, api.Action{Kind: api.ActPrint, Str: "1"})
	for i, a := range list {
		for j, b := range list {
			if protocol.Same(a, b) != (i == j) || same(a, b) != (i == j) {
				t.Fatalf("Same(%v, %v): %v", a, b, i != j)
			}
		}
	}
}
