package stack_test

import (
	"math"
	"math/big"
	"slices"
	"testing"

	"scripting/api"
	"scripting/stack"
	"scripting/value"
)

// chance returns numbers that look like those of chance.
type chance struct{ state uint64 }

// below returns a number from 0 to n - 1.
func (c *chance) below(n int) int {
	c.state = c.state*6364136223846793005 + 1442695040888963407
	return int(c.state >> 33 % uint64(n))
}

// model is a list of values, each method of which makes a new list as chapter 17 describes it.
type model struct {
	list  []api.Value
	limit int
}

// position returns the position that an integer denotes, counted from 0 on, or -1: it is searched.
func (m *model) position(i int) int {
	for at := range m.list {
		fromTop := len(m.list) - at
		if i == at+1 || i == -fromTop {
			return at
		}
	}
	return -1
}

// push pushes a value.
func (m *model) push(v api.Value) api.Errno {
	switch {
	case !value.Valid(v):
		return api.ErrArg
	case len(m.list) == m.limit:
		return api.ErrFull
	}
	m.list = slices.Concat(m.list, []api.Value{v})
	return api.OK
}

// pop removes the top value so many times.
func (m *model) pop(n int) api.Errno {
	switch {
	case n < 0:
		return api.ErrArg
	case len(m.list) < n:
		return api.ErrEmpty
	}
	for range n {
		m.list = slices.Clone(m.list[:len(m.list)-1])
	}
	return api.OK
}

// setTop removes or pushes one value after the other.
func (m *model) setTop(n int) api.Errno {
	if n < 0 || n > m.limit {
		return api.ErrRange
	}
	for len(m.list) > n {
		m.pop(1)
	}
	for len(m.list) < n {
		m.push(none)
	}
	return api.OK
}

// put replaces a value.
func (m *model) put(i int, v api.Value) api.Errno {
	at := m.position(i)
	switch {
	case at < 0:
		return api.ErrRange
	case !value.Valid(v):
		return api.ErrArg
	}
	m.list = slices.Concat(m.list[:at], []api.Value{v}, m.list[at+1:])
	return api.OK
}

// insert moves the top value to a position.
func (m *model) insert(i int) api.Errno {
	at := m.position(i)
	if at < 0 {
		return api.ErrRange
	}
	last := len(m.list) - 1
	m.list = slices.Concat(m.list[:at], m.list[last:], m.list[at:last])
	return api.OK
}

// remove removes a value.
func (m *model) remove(i int) api.Errno {
	at := m.position(i)
	if at < 0 {
		return api.ErrRange
	}
	m.list = slices.Concat(m.list[:at], m.list[at+1:])
	return api.OK
}

// rotate gives each value its new place, which is found with the arithmetic of math/big.
func (m *model) rotate(i, n int) api.Errno {
	at := m.position(i)
	if at < 0 {
		return api.ErrRange
	}
	count := big.NewInt(int64(len(m.list) - at))
	list := slices.Clone(m.list)
	for from := at; from < len(m.list); from++ {
		to := new(big.Int).Add(big.NewInt(int64(from-at)), big.NewInt(int64(n)))
		list[at+int(to.Mod(to, count).Int64())] = m.list[from]
	}
	m.list = list
	return api.OK
}

// copyTo replaces a value by another one.
func (m *model) copyTo(from, to int) api.Errno {
	if m.position(from) < 0 || m.position(to) < 0 {
		return api.ErrRange
	}
	return m.put(to, m.list[m.position(from)])
}

// room reports whether there is room.
func (m *model) room(n int) api.Errno {
	switch {
	case n < 0:
		return api.ErrArg
	case big.NewInt(0).Add(big.NewInt(int64(n)), big.NewInt(int64(len(m.list)))).Cmp(big.NewInt(int64(m.limit))) > 0:
		return api.ErrFull
	}
	return api.OK
}

// step is a call of one of the methods: which one, and its arguments.
type step struct {
	method string
	i, n   int
	v      api.Value
}

// stepOf makes the call on a stack and on a model.
func stepOf(o *stack.Stack, m *model, s step) (api.Errno, api.Errno) {
	switch s.method {
	case "Push":
		return o.Push(s.v), m.push(s.v)
	case "Pop":
		return o.Pop(s.n), m.pop(s.n)
	case "SetTop":
		return o.SetTop(s.n), m.setTop(s.n)
	case "Put":
		return o.Put(s.i, s.v), m.put(s.i, s.v)
	case "Insert":
		return o.Insert(s.i), m.insert(s.i)
	case "Remove":
		return o.Remove(s.i), m.remove(s.i)
	case "Rotate":
		return o.Rotate(s.i, s.n), m.rotate(s.i, s.n)
	case "Copy":
		return o.Copy(s.i, s.n), m.copyTo(s.i, s.n)
	}
	return o.Room(s.n), m.room(s.n)
}

// wantStep makes a call on a stack and on a model, and compares both. It is P17.8, too: an error changes nothing,
// and there are never more values than the limit.
func wantStep(t *testing.T, o *stack.Stack, m *model, s step) {
	t.Helper()
	before := o.List()
	e, wantE := stepOf(o, m, s)
	after := o.List()
	if e != wantE || !slices.Equal(after, m.list) || o.Top() != len(m.list) {
		t.Fatalf("%s(%d, %d, %.20s) on %s: error %d, %s; want error %d, %s", s.method, s.i, s.n, value.Text(s.v), texts(before), int(e), texts(after), int(wantE), texts(m.list))
	}
	if len(after) > m.limit || e != api.OK && !slices.Equal(before, after) {
		t.Fatalf("%s(%d, %d) made %s of %s, error %d", s.method, s.i, s.n, texts(after), texts(before), int(e))
	}
}

// steps returns calls of all methods with all arguments that matter for a short stack.
func steps() []step {
	extreme := []int{math.MinInt, math.MinInt + 1, math.MinInt + 5, -1 << 62, 1 << 62, math.MaxInt - 5, math.MaxInt - 1, math.MaxInt}
	small := []int{-11, -6, -5, -4, -3, -2, -1, 0, 1, 2, 3, 4, 5, 6, 11}
	all := append(small, extreme...)
	values := []api.Value{none, num(9), str("s"), {Kind: api.Table, Ref: 5}, {Kind: api.Table}, {Ref: 1}}
	var list []step
	for _, v := range values {
		list = append(list, step{method: "Push", v: v})
		for _, i := range all {
			list = append(list, step{method: "Put", i: i, v: v})
		}
	}
	for _, i := range all {
		for _, method := range []string{"Insert", "Remove"} {
			list = append(list, step{method: method, i: i})
		}
		for _, method := range []string{"Pop", "SetTop", "Room"} {
			list = append(list, step{method: method, n: i})
		}
		for _, n := range all {
			list = append(list, step{method: "Rotate", i: i, n: n}, step{method: "Copy", i: i, n: n})
		}
	}
	return list
}

// TestOneStep covers P17.2 to P17.5 and P17.8: all calls on all stacks with a small limit, compared with the model.
func TestOneStep(t *testing.T) {
	for limit := 1; limit <= 5; limit++ {
		for top := range limit + 1 {
			for _, s := range steps() {
				list := nums(1, 2, 3, 4, 5)[:top]
				wantStep(t, fill(t, limit, list...), &model{list: list, limit: limit}, s)
			}
		}
	}
}

// TestTwoSteps covers the same for each list of two calls.
func TestTwoSteps(t *testing.T) {
	list := steps()
	for i, first := range list {
		for j := i % 5; j < len(list); j += 5 { // 5 is no divisor of a number of choices, so all arguments meet
			o, m := fill(t, 4, nums(1, 2, 3)...), &model{list: nums(1, 2, 3), limit: 4}
			if e, wantE := stepOf(o, m, first); e != wantE {
				t.Fatalf("%v: error %d; want %d", first, int(e), int(wantE))
			}
			wantStep(t, o, m, list[j])
		}
	}
}

// anyStep returns a call for a stack with n values.
func (c *chance) anyStep(n, limit int) step {
	values := append(valid(), invalid()...)
	s := step{i: c.below(2*n+3) - n - 1, n: c.below(9) - 2, v: num(c.below(1000))}
	if c.below(3) == 0 {
		s.v = values[c.below(len(values))]
	}
	s.method = []string{"Push", "Push", "Push", "Push", "Put", "Insert", "Remove", "Rotate", "Copy", "Room", "Pop", "SetTop"}[c.below(12)]
	switch s.method {
	case "Rotate":
		s.n = c.below(3000) - 1500
	case "Copy":
		s.n = c.below(2*n+3) - n - 1
	case "Room":
		s.n = c.below(limit + 3)
	case "SetTop":
		s.n = n + c.below(7) - 3
		if c.below(40) == 0 {
			s.n = c.below(limit+3) - 1
		}
	}
	return s
}

// TestManySteps covers the same for long lists of calls, also for large stacks.
func TestManySteps(t *testing.T) {
	for _, limit := range []int{1, 2, 3, 7, 20, 100, api.MaxStack} {
		c := &chance{state: uint64(limit)}
		o, m := fill(t, limit), &model{limit: limit}
		for range 3000 {
			wantStep(t, o, m, c.anyStep(o.Top(), limit))
		}
	}
}

// TestRotations is P17.6: Insert and Remove are rotations.
func TestRotations(t *testing.T) {
	for top := 1; top <= 6; top++ {
		for i := -7; i <= 7; i++ {
			list := nums(1, 2, 3, 4, 5, 6)[:top]
			a, b := fill(t, 6, list...), fill(t, 6, list...)
			want(t, "Insert", a.Insert(i), b.Rotate(i, 1))
			wantList(t, "Insert", a, b.List()...)
			want(t, "Insert", a.Insert(-1), api.OK)
			wantList(t, "Insert", a, b.List()...)
			e := b.Rotate(i, -1)
			if e == api.OK {
				e = b.Pop(1)
			}
			want(t, "Remove", a.Remove(i), e)
			wantList(t, "Remove", a, b.List()...)
		}
	}
}

// TestRotationAndBack is P17.7.
func TestRotationAndBack(t *testing.T) {
	c := &chance{state: 7}
	far := []int{1, 2, 3, 1 << 31, 1<<31 - 1, 1 << 32, 1<<62 - 1, 1 << 62}
	for range 2000 {
		far = append(far, (c.below(1<<31)<<31|c.below(1<<31))>>c.below(60))
	}
	var list []api.Value
	for n := range api.MaxStack {
		list = append(list, num(n))
	}
	o := fill(t, api.MaxStack, list...)
	short := fill(t, 9, nums(1, 2, 3, 4, 5, 6, 7)...)
	for _, n := range far {
		for _, n := range []int{n, -n} {
			i := 1 + c.below(api.MaxStack)
			want(t, "Rotate", o.Rotate(i, n), api.OK)
			want(t, "Rotate", o.Rotate(i, -n), api.OK)
			wantList(t, "Rotate", o, list...)
			for i := 1; i <= 7; i++ {
				want(t, "Rotate", short.Rotate(i, n), api.OK)
				want(t, "Rotate", short.Rotate(i, -n), api.OK)
			}
			wantList(t, "Rotate", short, nums(1, 2, 3, 4, 5, 6, 7)...)
		}
	}
}

// TestRotationsAdd covers P17.4: a rotation by n positions is n rotations by one.
func TestRotationsAdd(t *testing.T) {
	for n := range 20 {
		for i := 1; i <= 7; i++ {
			a, b := fill(t, 7, nums(1, 2, 3, 4, 5, 6, 7)...), fill(t, 7, nums(1, 2, 3, 4, 5, 6, 7)...)
			want(t, "Rotate", a.Rotate(i, n), api.OK)
			for range n {
				want(t, "Rotate", b.Rotate(i, 1), api.OK)
			}
			wantList(t, "Rotate", a, b.List()...)
			want(t, "Rotate", a.Rotate(i-8, -2*n), api.OK)
			for range 2 * n {
				want(t, "Rotate", b.Rotate(i, -1), api.OK)
			}
			wantList(t, "Rotate", a, b.List()...)
		}
	}
}
