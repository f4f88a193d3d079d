package scope_test

import (
	"slices"

	"scripting/api"
	"scripting/scope"
)

// The functions of this file apply the definitions of the chapter one by one to small chunks. Whatever happens in a
// chunk has a time: the times ascend in the order of the text.

// local is a local variable: its scope is from a time to another one, without that.
type local struct {
	fn, index int
	api.Local
	from, to int
}

// declaration is the beginning of the scopes of variables of a function.
type declaration struct{ fn, at, line int }

// use is an EName.
type use struct {
	fn, at, line int
	name         string
	set          bool
}

// inner is a block around a statement: its statements, the index of the one that is or contains the statement,
// whether it is that of a repeat, its beginning, and the times of its statements.
type inner struct {
	list   []api.Stat
	index  int
	repeat bool
	begin  int
	times  []int
}

// leap is a goto, a break or a label: its enclosing blocks from the innermost one on, and the end of the innermost
// loop, or 0.
type leap struct {
	fn, at int
	s      api.Stat
	blocks []*inner
	loop   *int
}

// fault is an error, its place, and its row in the table of the chapter.
type fault struct {
	at, row, line int
	code          api.Errno
}

// survey is what is in a chunk.
type survey struct {
	now     int
	parents []int
	varargs []bool
	locals  []local
	begins  []declaration
	uses    []use
	leaps   []leap
	faults  []fault
}

// position is where the survey is: in a function, in blocks and in a loop.
type position struct {
	fn     int
	blocks []*inner
	loop   *int
}

// surveyed returns the survey of a chunk.
func surveyed(b []api.Stat) *survey {
	v := &survey{}
	v.function(api.Func{Vararg: true, Body: b}, -1)
	return v
}

// tick returns the next time.
func (v *survey) tick() int {
	v.now++
	return v.now
}

func (v *survey) function(f api.Func, parent int) {
	number := len(v.parents)
	v.parents, v.varargs = append(v.parents, parent), append(v.varargs, f.Vararg)
	var params []api.Local
	for _, x := range f.Params {
		params = append(params, api.Local{Name: x})
	}
	first := v.declare(params, number, f.Line)
	v.block(f.Body, false, position{fn: number})
	v.end(first)
}

// declare begins the scopes of variables, and returns the index of the first one.
func (v *survey) declare(l []api.Local, fn, line int) int {
	at, first := v.tick(), len(v.locals)
	for _, x := range l {
		v.locals = append(v.locals, local{fn: fn, index: v.count(fn), Local: x, from: at, to: -1})
	}
	v.begins = append(v.begins, declaration{fn, at, line})
	return first
}

// count returns the number of local variables of a function.
func (v *survey) count(fn int) int {
	n := 0
	for _, x := range v.locals {
		if x.fn == fn {
			n++
		}
	}
	return n
}

// end ends the scopes of the variables from an index on that have not ended.
func (v *survey) end(first int) {
	at := v.tick()
	for i := first; i < len(v.locals); i++ {
		if v.locals[i].to < 0 {
			v.locals[i].to = at
		}
	}
}

// block surveys a block and returns the index of its first variable; their scopes go on.
func (v *survey) block(list []api.Stat, repeat bool, p position) int {
	first := len(v.locals)
	in := &inner{list: list, repeat: repeat, begin: v.tick()}
	for i := range list {
		here := *in
		here.index = i
		in.times = append(in.times, v.now+1)
		v.stat(list[i], position{p.fn, append([]*inner{&here}, p.blocks...), p.loop})
	}
	// The times of the statements after a jump are known now.
	for _, x := range v.leaps {
		for _, y := range x.blocks {
			if y.begin == in.begin {
				y.times = in.times
			}
		}
	}
	return first
}

func (v *survey) stat(s api.Stat, p position) {
	at := v.tick()
	var end int
	inside := p
	switch s.Kind {
	case api.SFunc:
		v.declare(s.Names, p.fn, s.Line)
	case api.SWhile, api.SRepeat, api.SNum, api.SFor:
		inside.loop = &end
	case api.SBreak, api.SGoto, api.SLabel:
		v.leaps = append(v.leaps, leap{p.fn, at, s, p.blocks, p.loop})
	case api.SAssign:
		for _, e := range s.Left {
			v.expr(e, p.fn, true)
		}
	}
	first := len(v.locals)
	if s.Kind == api.SRepeat {
		v.block(s.Blocks[0], true, inside)
	}
	for i := range max(len(s.Right), len(s.Blocks)) {
		if i < len(s.Right) {
			v.expr(s.Right[i], p.fn, false)
		}
		if s.Kind == api.SIf {
			v.end(v.block(s.Blocks[i], false, p))
		}
	}
	switch s.Kind {
	case api.SLocal:
		v.declare(s.Names, p.fn, s.Line)
		return
	case api.SDo, api.SWhile, api.SNum, api.SFor:
		v.declare(s.Names, p.fn, s.Line)
		v.block(s.Blocks[0], false, inside)
	case api.SRepeat:
	default:
		return
	}
	v.end(first)
	end = v.now
}

func (v *survey) expr(e api.Expr, fn int, left bool) {
	at := v.tick()
	switch e.Kind {
	case api.EName:
		v.uses = append(v.uses, use{fn, at, e.Line, e.Str, left})
	case api.EVararg:
		if !v.varargs[fn] {
			v.faults = append(v.faults, fault{at, 1, e.Line, api.ErrForm})
		}
	}
	for _, x := range e.Args {
		v.expr(x, fn, false)
	}
	for _, f := range e.Funcs {
		v.function(f, fn)
	}
}

// within reports whether a function is another one or inside of it.
func (v *survey) within(fn, other int) bool {
	for fn > other {
		fn = v.parents[fn]
	}
	return fn == other
}

// in reports whether a variable is in scope at a time.
func (x local) in(at int) bool { return x.from <= at && (at < x.to || x.to < 0) }

// denoted returns the local variable that a use denotes, or nil.
func (v *survey) denoted(u use) *local {
	for i := len(v.locals) - 1; i >= 0; i-- {
		if x := &v.locals[i]; x.in(u.at) && x.Name == u.name && v.within(u.fn, x.fn) {
			return x
		}
	}
	return nil
}

// upvalues returns the upvalues of a function by the uses up to a time.
func (v *survey) upvalues(fn, at int) []*local {
	var l []*local
	for _, u := range v.uses {
		if x := v.denoted(u); u.at <= at && x != nil && v.within(u.fn, fn) && x.fn < fn && v.within(fn, x.fn) && !slices.Contains(l, x) {
			l = append(l, x)
		}
	}
	return l
}

// visible returns the block and the index of the label that is visible at a goto.
func (x leap) visible() (*inner, int) {
	for _, b := range x.blocks {
		for i, s := range b.list {
			if s.Kind == api.SLabel && s.Label == x.s.Label {
				return b, i
			}
		}
	}
	return nil, 0
}

// atEnd reports whether a label counts as outside the scopes of the variables of its block.
func (b *inner) atEnd(label int) bool {
	for _, s := range b.list[label:] {
		if s.Kind != api.SLabel {
			return false
		}
	}
	return !b.repeat
}

// enters reports whether a goto enters the scope of a local variable.
func (x leap) enters() bool {
	b, label := x.visible()
	if label < b.index || b.atEnd(label) {
		return false
	}
	return slices.ContainsFunc(b.list[b.index+1:label], func(s api.Stat) bool { return s.Kind == api.SLocal || s.Kind == api.SFunc })
}

// twice reports whether a label of the same name precedes a label.
func (x leap) twice() bool {
	for _, b := range x.blocks {
		for _, s := range b.list[:b.index] {
			if s.Kind == api.SLabel && s.Label == x.s.Label {
				return true
			}
		}
	}
	return false
}

// leapFaults adds the errors of jumps and labels.
func (v *survey) leapFaults() {
	for _, x := range v.leaps {
		add := func(row int, e api.Errno) { v.faults = append(v.faults, fault{x.at, row, x.s.Line, e}) }
		b, _ := x.visible()
		switch {
		case x.s.Kind == api.SBreak && x.loop == nil:
			add(2, api.ErrForm)
		case x.s.Kind == api.SLabel && x.twice():
			add(3, api.ErrTwice)
		case x.s.Kind == api.SGoto && b == nil:
			add(5, api.ErrLabel)
		case x.s.Kind == api.SGoto && x.enters():
			add(6, api.ErrLabel)
		}
	}
}

// useFaults adds the errors of uses and declarations.
func (v *survey) useFaults() {
	for _, u := range v.uses {
		x := v.denoted(u)
		if x == nil {
			continue
		}
		if u.set && x.Attr != api.Plain {
			v.faults = append(v.faults, fault{u.at, 4, u.line, api.ErrConst})
		}
		for fn := u.fn; fn > x.fn; fn = v.parents[fn] {
			if len(v.upvalues(fn, u.at)) > 60 {
				v.faults = append(v.faults, fault{u.at, 8, u.line, api.ErrLimit})
			}
		}
	}
	for _, d := range v.begins {
		if v.together(d.fn, d.at) > 120 {
			v.faults = append(v.faults, fault{d.at, 7, d.line, api.ErrLimit})
		}
	}
}

// together returns the number of variables of a function that are in scope at a time.
func (v *survey) together(fn, at int) int {
	n := 0
	for _, x := range v.locals {
		if x.fn == fn && x.in(at) {
			n++
		}
	}
	return n
}

// wantCheck returns what Check has to return.
func (v *survey) wantCheck() (int, api.Errno) {
	v.leapFaults()
	v.useFaults()
	if len(v.faults) == 0 {
		return 0, api.OK
	}
	first := slices.MinFunc(v.faults, func(a, b fault) int { return 16*(a.at-b.at) + a.row - b.row })
	return first.line, first.code
}

// wantUses returns what Uses has to return.
func (v *survey) wantUses() []api.Use {
	var l []api.Use
	for _, u := range v.uses {
		w := api.Use{Line: u.line, Name: u.name, Func: u.fn, Kind: api.UseGlobal, Set: u.set}
		if x := v.denoted(u); x != nil {
			w.Kind, w.Index = api.UseLocal, x.index
			if x.fn != u.fn {
				w.Kind, w.Index = api.UseUp, slices.Index(v.upvalues(u.fn, v.now), x)
			}
		}
		l = append(l, w)
	}
	return l
}

// wantUps returns what Ups has to return.
func (v *survey) wantUps(fn int) []api.Up {
	var l []api.Up
	for _, x := range v.upvalues(fn, v.now) {
		u := api.Up{Name: x.Name, Local: x.fn == v.parents[fn], Index: x.index}
		if !u.Local {
			u.Index = slices.Index(v.upvalues(v.parents[fn], v.now), x)
		}
		l = append(l, u)
	}
	return l
}

// wantLocals returns what Locals has to return.
func (v *survey) wantLocals(fn int) []api.Local {
	var l []api.Local
	for _, x := range v.locals {
		if x.fn == fn {
			l = append(l, x.Local)
		}
	}
	return l
}

// wantCaptured returns what Captured has to return.
func (v *survey) wantCaptured(fn int) []int {
	var l []int
	for i := range v.locals {
		x := &v.locals[i]
		captures := func(u use) bool { return u.fn != x.fn && v.denoted(u) == x }
		if x.fn == fn && slices.ContainsFunc(v.uses, captures) {
			l = append(l, x.index)
		}
	}
	return l
}

// wantJumps returns what Jumps has to return.
func (v *survey) wantJumps() []scope.Jump {
	var l []scope.Jump
	for _, x := range v.leaps {
		w := scope.Jump{Func: x.fn, Line: x.s.Line, Label: x.s.Label}
		target := 0
		switch x.s.Kind {
		case api.SLabel:
			continue
		case api.SBreak:
			target = *x.loop
		default:
			b, label := x.visible()
			w.Back = label < b.index
			target = b.times[label]
			if b.atEnd(label) {
				target = b.begin
			}
		}
		for _, y := range v.locals {
			if y.fn == x.fn && y.in(x.at) && !y.in(target) {
				w.Out++
			}
		}
		l = append(l, w)
	}
	return l
}
