package fold_test

import (
	"fmt"
	"strings"
	"testing"

	"scripting/api"
	"scripting/fold"
	"scripting/numeral"
	"scripting/rational"
	"scripting/tree"
)

// This file contains P10.8: chunks are executed, before and after they are folded. The execution is that of DOC.md
// for the statements that the texts of the tests have, without metatables; a function f writes its arguments.

// most is the greatest number of steps of an execution.
const most = 400

// failure is the panic by which an execution ends early.
type failure struct {
	line int
	text string
}

// scopes are variables, by their names, and those of the blocks around them.
type scopes struct {
	names map[string]*api.Value
	outer *scopes
}

// find returns a variable, a global one if there is no other.
func (s *scopes) find(name string) *api.Value {
	for ; s.outer != nil; s = s.outer {
		if v := s.names[name]; v != nil {
			return v
		}
	}
	if s.names[name] == nil {
		s.names[name] = &api.Value{}
	}
	return s.names[name]
}

// declare makes a new variable.
func (s *scopes) declare(name string, v api.Value) { s.names[name] = &v }

// inner returns scopes with a new block.
func (s *scopes) inner() *scopes { return &scopes{map[string]*api.Value{}, s} }

// closure is a function and the variables around it.
type closure struct {
	fn     api.Func
	around *scopes
}

// run is an execution: what it has written, its steps, and its objects by their identities.
type run struct {
	out      []string
	steps    int
	tables   map[int]map[api.Value]api.Value
	closures map[int]closure
}

// outcome returns what can be observed of the execution of a chunk. Most statements of chance fail soon; so each
// statement of the chunk is executed, whatever has become of those before it. failures is the number of those that fail.
func outcome(b []api.Stat) (text string, failures int) {
	r := &run{tables: map[int]map[api.Value]api.Value{}, closures: map[int]closure{}}
	globals := &scopes{names: map[string]*api.Value{}}
	globals.declare("f", api.Value{Kind: api.Builtin, Str: "f"})
	globals.declare("y", num(5, 2))
	globals.declare("n", num(3, 1))
	globals.declare("s", str("ab"))
	globals.declare("z", boolean(0))
	s := globals.inner()
	for i := range b {
		if r.protected(&b[i], s) {
			failures++
		}
	}
	return strings.Join(r.out, "; "), failures
}

// protected executes a statement of the chunk, writes how it ends, and reports whether it fails.
func (r *run) protected(x *api.Stat, s *scopes) (failed bool) {
	defer func() {
		if f, ok := recover().(failure); ok {
			failed = true
			r.out = append(r.out, fmt.Sprintf("step %d, line %d: %s", r.steps, f.line, f.text))
		}
	}()
	values, how := r.stat(x, s, []api.Value{num(7, 1), str("v")})
	r.out = append(r.out, fmt.Sprintf("step %d: %d %v", r.steps, how, values))
	return false
}

// fail ends the execution.
func fail(line int, text string, args ...any) { panic(failure{line, fmt.Sprintf(text, args...)}) }

// step counts a step.
func (r *run) step(line int) {
	if r.steps++; r.steps > most {
		fail(line, "too many steps")
	}
}

// How a block ends.
const (
	ended = iota
	broken
	returned
)

// body executes a block with its own variables.
func (r *run) body(b []api.Stat, around *scopes, more []api.Value) ([]api.Value, int) {
	s := around.inner()
	for i := range b {
		if values, how := r.stat(&b[i], s, more); how != ended {
			return values, how
		}
	}
	return nil, ended
}

// stat executes a statement.
func (r *run) stat(x *api.Stat, s *scopes, more []api.Value) ([]api.Value, int) {
	r.step(x.Line)
	switch x.Kind {
	case api.SLocal:
		values := r.list(x.Right, s, more)
		for i, l := range x.Names {
			s.declare(l.Name, at(values, i))
		}
	case api.SFunc:
		s.declare(x.Names[0].Name, api.Value{})
		*s.find(x.Names[0].Name) = r.one(x.Right[0], s, more)
	case api.SAssign:
		r.assign(x, s, more)
	case api.SCall:
		r.several(x.Right[0], s, more)
	case api.SDo:
		return r.body(x.Blocks[0], s, more)
	case api.SIf:
		for i := range x.Blocks {
			if i == len(x.Right) || wantTrue(r.one(x.Right[i], s, more)) {
				return r.body(x.Blocks[i], s, more)
			}
		}
	case api.SWhile, api.SRepeat, api.SNum, api.SFor:
		return r.loop(x, s, more)
	case api.SReturn:
		return r.list(x.Right, s, more), returned
	case api.SBreak:
		return nil, broken
	}
	return nil, ended
}

// assign executes an assignment.
func (r *run) assign(x *api.Stat, s *scopes, more []api.Value) {
	type side struct{ object, key api.Value }
	var sides []side
	for _, e := range x.Left {
		if e.Kind == api.EIndex {
			sides = append(sides, side{r.one(e.Args[0], s, more), r.one(e.Args[1], s, more)})
		} else {
			sides = append(sides, side{})
		}
	}
	values := r.list(x.Right, s, more)
	for i, e := range x.Left {
		if e.Kind == api.EName {
			*s.find(e.Str) = at(values, i)
			continue
		}
		fields := r.tables[sides[i].object.Ref]
		if fields == nil || sides[i].key.Kind == api.Nil {
			fail(e.Line, "cannot assign the field %v of %v", sides[i].key, sides[i].object)
		}
		fields[sides[i].key] = at(values, i)
	}
}

// loop executes a loop.
func (r *run) loop(x *api.Stat, s *scopes, more []api.Value) ([]api.Value, int) {
	inner := s.inner()
	next := func() bool { return true }
	switch x.Kind {
	case api.SWhile:
		next = func() bool { return wantTrue(r.one(x.Right[0], s, more)) }
	case api.SNum:
		next = r.counter(x, inner, r.list(x.Right, s, more))
	case api.SFor:
		next = r.iterator(x, inner, r.list(x.Right, s, more))
	}
	for next() {
		r.step(x.Line)
		block := inner.inner()
		for i := range x.Blocks[0] {
			values, how := r.stat(&x.Blocks[0][i], block, more)
			if how == returned {
				return values, how
			}
			if how == broken {
				return nil, ended
			}
		}
		if x.Kind == api.SRepeat && wantTrue(r.one(x.Right[0], block, more)) {
			break
		}
	}
	return nil, ended
}

// counter returns the function that begins each iteration of a numeric for.
func (r *run) counter(x *api.Stat, s *scopes, l []api.Value) func() bool {
	for _, v := range l[:2] {
		if v.Kind != api.Number {
			fail(x.Line, "for %v", l)
		}
	}
	v := l[0]
	return func() bool {
		s.declare(x.Names[0].Name, v)
		here := rational.Cmp(v.Num, l[1].Num) <= 0
		v.Num, _ = rational.Add(v.Num, api.Num{P: 1, Q: 1})
		return here
	}
}

// iterator returns the function that begins each iteration of a generic for.
func (r *run) iterator(x *api.Stat, s *scopes, l []api.Value) func() bool {
	control := at(l, 2)
	return func() bool {
		values := r.call(x.Line, at(l, 0), []api.Value{at(l, 1), control})
		for i, n := range x.Names {
			s.declare(n.Name, at(values, i))
		}
		control = at(values, 0)
		return control.Kind != api.Nil
	}
}

// at returns an element of a list, or nil.
func at(l []api.Value, i int) api.Value {
	if i < len(l) {
		return l[i]
	}
	return api.Value{}
}

// list returns the values of a list of expressions.
func (r *run) list(l []api.Expr, s *scopes, more []api.Value) []api.Value {
	var values []api.Value
	for i, e := range l {
		if i == len(l)-1 {
			return append(values, r.several(e, s, more)...)
		}
		values = append(values, r.one(e, s, more))
	}
	return values
}

// several returns the values of an expression.
func (r *run) several(e api.Expr, s *scopes, more []api.Value) []api.Value {
	switch e.Kind {
	case api.EVararg:
		return more
	case api.ECall:
		f := r.one(e.Args[0], s, more)
		return r.call(e.Line, f, r.list(e.Args[1:], s, more))
	case api.EMethod:
		object := r.one(e.Args[0], s, more)
		f := r.index(e.Line, object, str(e.Str))
		return r.call(e.Line, f, append([]api.Value{object}, r.list(e.Args[1:], s, more)...))
	}
	return []api.Value{r.one(e, s, more)}
}

// one returns one value of an expression.
func (r *run) one(e api.Expr, s *scopes, more []api.Value) api.Value {
	switch e.Kind {
	case api.ENil:
		return api.Value{}
	case api.ETrue, api.EFalse:
		return boolean(api.EFalse - e.Kind)
	case api.ENumber, api.EString:
		return api.Value{Kind: api.Number + e.Kind - api.ENumber, Num: e.Num, Str: e.Str}
	case api.EName:
		return *s.find(e.Str)
	case api.EIndex:
		object := r.one(e.Args[0], s, more)
		return r.index(e.Line, object, r.one(e.Args[1], s, more))
	case api.EFunc:
		id := len(r.closures) + 1000
		r.closures[id] = closure{e.Funcs[0], s}
		return api.Value{Kind: api.Function, Ref: id}
	case api.ETable:
		return r.table(e, s, more)
	case api.EUnary:
		return operated(e, r.one(e.Args[0], s, more), api.Value{})
	case api.EBinary:
		v := r.one(e.Args[0], s, more)
		return operated(e, v, r.one(e.Args[1], s, more))
	case api.EAnd, api.EOr:
		if v := r.one(e.Args[0], s, more); wantTrue(v) == (e.Kind == api.EOr) {
			return v
		}
		return r.one(e.Args[1], s, more)
	case api.EParen:
		return r.one(e.Args[0], s, more)
	}
	return at(r.several(e, s, more), 0)
}

// table returns a new table.
func (r *run) table(e api.Expr, s *scopes, more []api.Value) api.Value {
	id, fields, count := len(r.tables)+1, map[api.Value]api.Value{}, 0
	r.tables[id] = fields
	for i, x := range e.Args {
		if x.Kind == api.EPair {
			key := r.one(x.Args[0], s, more)
			if key.Kind == api.Nil {
				fail(x.Line, "the key is nil")
			}
			fields[key] = r.one(x.Args[1], s, more)
			continue
		}
		values := r.several(x.Args[0], s, more)
		if i < len(e.Args)-1 {
			values = []api.Value{at(values, 0)}
		}
		for _, v := range values {
			count++
			fields[num(count, 1)] = v
		}
	}
	return api.Value{Kind: api.Table, Ref: id}
}

// index returns the field of a table.
func (r *run) index(line int, object, key api.Value) api.Value {
	if object.Kind != api.Table {
		fail(line, "attempt to index %v", object)
	}
	return r.tables[object.Ref][key]
}

// call calls a function.
func (r *run) call(line int, f api.Value, args []api.Value) []api.Value {
	if f.Kind == api.Builtin {
		r.out = append(r.out, fmt.Sprintf("f%v", args))
		return args[min(len(r.out)%3, len(args)):]
	}
	c, found := r.closures[f.Ref]
	if f.Kind != api.Function || !found {
		fail(line, "attempt to call %v", f)
	}
	r.step(line)
	s := c.around.inner()
	for i, p := range c.fn.Params {
		s.declare(p, at(args, i))
	}
	var more []api.Value
	if c.fn.Vararg {
		more = args[min(len(c.fn.Params), len(args)):]
	}
	values, _ := r.body(c.fn.Body, s, more)
	return values
}

// operated returns the result of an operator; arithmetic converts strings.
func operated(e api.Expr, v, w api.Value) api.Value {
	if e.Op <= api.OpPow || e.Op >= api.OpAnd && e.Op <= api.OpShr || e.Op == api.OpNeg || e.Op == api.OpBnot {
		v, w = converted(v), converted(w)
	}
	result, ok := wantBinary(e.Op, v, w)
	if e.Kind == api.EUnary {
		result, ok = wantUnary(e.Op, v)
	}
	if !ok {
		fail(e.Line, "operator %d of %v and %v", e.Op, v, w)
	}
	return result
}

// converted returns the number of a string that is the text of one.
func converted(v api.Value) api.Value {
	if n, e := numeral.Parse(v.Str); v.Kind == api.String && e == api.OK {
		return api.Value{Kind: api.Number, Num: n}
	}
	return v
}

// TestOutcomes covers P10.8 and the part of G5 that it promises.
func TestOutcomes(t *testing.T) {
	c := &chance{34}
	changed, well, failed := 0, 0, 0
	for range 12000 {
		text := c.block(3, 7)
		b := readChunk(t, text)
		folded := fold.Chunk(b)
		want, failures := outcome(b)
		if got, _ := outcome(folded); got != want {
			t.Fatalf("the outcome is %s; want %s of %s", got, want, text)
		}
		if !tree.Same(folded, b) {
			changed++
			well, failed = well+len(b)-failures, failed+failures
		}
	}
	if changed < 5000 || well < 5000 || failed < 5000 {
		t.Errorf("%d chunks are changed; %d of their statements end well, and %d fail", changed, well, failed)
	}
}

// TestOutcomesOfLists covers P10.8 where the number of values matters, and what an operand is executed for.
func TestOutcomesOfLists(t *testing.T) {
	for _, text := range []string{
		"return true and ...", "return nil or f(1, 2)", "return {true and ...}", "f(false or ..., 1 and ...)", "local a, b, c = 1 and ... f(a, b, c)", "x, y = true and ... f(x, y)", "return (true and ...), 1 and f(1, 2, 3)",
		"return nil and f(1)", "return 1 or f(1)", "return f(1) and 2", "return f(1) or 2", "return (nil and f(1)) or f(2)", "return not f(1)", "return 1 + 1 == 2 and f(1)", "return '1' + 1, 10 .. 1, '2' * '3'", "return 1 / 0", "f(1) return 1 + nil", "return 1 < '1'", "return 2 ^ 31", "f(1 + 1) return 1 .. {}",
		"local g = true and function(...) return 1 and ... end return g(1, 2), g(3, 4)", "for a, b in nil or f do return a end", "while 1 > 2 or f(1) do return 3 - 4 end", "repeat local a = 1 until a == 1 + 0 return 1 / 3",
	} {
		b := readChunk(t, text)
		want, _ := outcome(b)
		if got, _ := outcome(fold.Chunk(b)); got != want {
			t.Errorf("the outcome is %s; want %s of %s", got, want, text)
		}
	}
}
