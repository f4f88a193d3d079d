package scope

import (
	"scripting/api"
	"scripting/tree"
)

// problem is an error and its line: what the resolver panics with.
type problem struct {
	line int
	code api.Errno
}

// variable is the place of a local variable: the number of its function, and its number there.
type variable struct{ fn, index int }

// function is what is known of a function.
type function struct {
	number int
	outer  *function
	vararg bool
	locals []api.Local
	ups    []api.Up
	upAt   map[variable]int // the numbers of its upvalues
	blocks []block          // those around the current statement, from the body on
	loops  []int            // for each loop around the current statement, the variables in scope before it
	seen   int              // the number of its variables in scope
}

// resolver visits a chunk in the order of the text.
type resolver struct {
	funcs  []*function
	here   *function             // the one that is visited
	scope  []string              // the names of the variables in scope, of all functions around
	named  map[string][]variable // the variables in scope by name, the innermost one last
	labels map[place]label
	uses   []api.Use
	jumps  []Jump
	number int // the number of blocks up to now
}

// resolve visits a chunk, and returns its first error with the line.
func resolve(b []api.Stat) (r *resolver, line int, e api.Errno) {
	if e := tree.Check(b); e != api.OK {
		return nil, 0, e
	}
	defer func() {
		if x := recover(); x != nil {
			wrong := x.(problem)
			r, line, e = nil, wrong.line, wrong.code
		}
	}()
	r = &resolver{named: map[string][]variable{}, labels: map[place]label{}}
	r.function(&api.Func{Vararg: true, Body: b})
	return r, 0, api.OK
}

// fail reports an error in a line.
func fail(e api.Errno, line int) { panic(problem{line: line, code: e}) }

// require reports an error in a line unless a condition holds.
func require(holds bool, e api.Errno, line int) {
	if !holds {
		fail(e, line)
	}
}

// function visits a function.
func (r *resolver) function(f *api.Func) {
	outer := r.here
	r.here = &function{number: len(r.funcs), outer: outer, vararg: f.Vararg, upAt: map[variable]int{}}
	r.funcs = append(r.funcs, r.here)
	for _, name := range f.Params {
		r.declare(api.Local{Name: name})
	}
	r.checkLocals(f.Line)
	r.statements(f.Body, false)
	r.forget(0)
	r.here = outer
}

// declare begins the scope of a local variable.
func (r *resolver) declare(v api.Local) {
	f := r.here
	r.named[v.Name] = append(r.named[v.Name], variable{f.number, len(f.locals)})
	r.scope = append(r.scope, v.Name)
	f.locals = append(f.locals, v)
	f.seen++
}

// declareAll begins the scopes of the local variables of a statement.
func (r *resolver) declareAll(s *api.Stat) {
	for _, v := range s.Names {
		r.declare(v)
	}
	r.checkLocals(s.Line)
}

// checkLocals reports too many local variables in scope.
func (r *resolver) checkLocals(line int) {
	require(r.here.seen <= api.MaxLocals, api.ErrLimit, line)
}

// forget ends the scopes of local variables until so many of the function are left.
func (r *resolver) forget(left int) {
	for ; r.here.seen > left; r.here.seen-- {
		last := len(r.scope) - 1
		name := r.scope[last]
		r.scope = r.scope[:last]
		r.named[name] = r.named[name][:len(r.named[name])-1]
	}
}

// stat visits a statement.
func (r *resolver) stat(s *api.Stat) {
	switch s.Kind {
	case api.SLocal:
		r.exprs(s.Right)
		r.declareAll(s)
	case api.SFunc:
		r.declareAll(s)
		r.exprs(s.Right)
	case api.SAssign:
		r.assign(s)
	case api.SCall, api.SReturn:
		r.exprs(s.Right)
	case api.SDo:
		r.block(s.Blocks[0])
	case api.SIf:
		r.choice(s)
	case api.SWhile, api.SRepeat, api.SNum, api.SFor:
		r.loop(s)
	case api.SBreak:
		r.leave(s)
	case api.SGoto:
		r.jump(s)
	case api.SLabel:
		r.label(s)
	}
}

// block visits a block whose variables nothing after it can use.
func (r *resolver) block(b []api.Stat) {
	before := r.here.seen
	r.statements(b, false)
	r.forget(before)
}

// assign visits an assignment.
func (r *resolver) assign(s *api.Stat) {
	for i := range s.Left {
		if e := &s.Left[i]; e.Kind == api.EName {
			r.use(e, true)
		} else {
			r.expr(e)
		}
	}
	r.exprs(s.Right)
}

// choice visits each condition before its block.
func (r *resolver) choice(s *api.Stat) {
	for i, b := range s.Blocks {
		if i < len(s.Right) {
			r.expr(&s.Right[i])
		}
		r.block(b)
	}
}

// loop visits a loop.
func (r *resolver) loop(s *api.Stat) {
	f := r.here
	before := f.seen
	if s.Kind != api.SRepeat {
		r.exprs(s.Right)
	}
	f.loops = append(f.loops, before)
	r.declareAll(s)
	r.statements(s.Blocks[0], s.Kind == api.SRepeat)
	f.loops = f.loops[:len(f.loops)-1]
	if s.Kind == api.SRepeat {
		r.exprs(s.Right)
	}
	r.forget(before)
}

// exprs visits expressions.
func (r *resolver) exprs(l []api.Expr) {
	for i := range l {
		r.expr(&l[i])
	}
}

// expr visits an expression that does not set a variable.
func (r *resolver) expr(e *api.Expr) {
	switch e.Kind {
	case api.EName:
		r.use(e, false)
	case api.EVararg:
		require(r.here.vararg, api.ErrForm, e.Line)
	}
	r.exprs(e.Args)
	for i := range e.Funcs {
		r.function(&e.Funcs[i])
	}
}

// use visits a name.
func (r *resolver) use(e *api.Expr, set bool) {
	u := api.Use{Line: e.Line, Name: e.Str, Func: r.here.number, Kind: api.UseGlobal, Set: set}
	if l := r.named[e.Str]; len(l) > 0 {
		v := l[len(l)-1]
		attr := r.funcs[v.fn].locals[v.index].Attr
		require(!set || attr == api.Plain, api.ErrConst, e.Line)
		u.Kind, u.Index = api.UseLocal, v.index
		if v.fn != u.Func {
			u.Kind, u.Index = api.UseUp, r.here.up(v, e)
		}
	}
	r.uses = append(r.uses, u)
}

// up returns the number of an upvalue of the function, which gets it if it does not have it. So do the functions
// between this one and the one of the variable.
func (f *function) up(v variable, e *api.Expr) int {
	if i, found := f.upAt[v]; found {
		return i
	}
	u := api.Up{Name: e.Str, Local: f.outer.number == v.fn, Index: v.index}
	if !u.Local {
		u.Index = f.outer.up(v, e)
	}
	i := len(f.ups)
	require(i < api.MaxUps, api.ErrLimit, e.Line)
	f.ups, f.upAt[v] = append(f.ups, u), i
	return i
}
