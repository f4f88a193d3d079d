package scope

import "scripting/api"

// place is where a label is: the number of its block, and its name.
type place struct {
	block int
	name  string
}

// label is the first label of its name in a block: its index there, and how many variables are in scope that were
// not at the beginning of the block.
type label struct{ at, more int }

// block is a block around the current statement: its number, the number of variables of the function that were in
// scope at its beginning, the index of the statement that is visited, and how many variables the statements before
// it have declared.
type block struct{ number, before, at, more int }

// statements visits the statements of a block, and leaves its variables in scope.
func (r *resolver) statements(list []api.Stat, repeat bool) {
	f := r.here
	r.number++
	b := block{number: r.number, before: f.seen}
	r.findLabels(b.number, list, repeat)
	depth := len(f.blocks)
	f.blocks = append(f.blocks, b)
	for i := range list {
		here := &f.blocks[depth]
		here.at, here.more = i, f.seen-b.before
		r.stat(&list[i])
	}
	f.blocks = f.blocks[:depth]
}

// findLabels finds the labels of a block before its statements are visited: a jump may precede its label.
func (r *resolver) findLabels(number int, list []api.Stat, repeat bool) {
	more, end := 0, tail(list, repeat)
	for i := range list {
		s := &list[i]
		switch s.Kind {
		case api.SLocal, api.SFunc:
			more += len(s.Names)
		case api.SLabel:
			if i >= end {
				// These labels count as outside the scopes of the variables of the block.
				more = 0
			}
			p := place{number, s.Label}
			if _, found := r.labels[p]; !found {
				r.labels[p] = label{i, more}
			}
		}
	}
}

// tail returns the index of the first of the labels at the end of a block. The condition of a repeat follows them.
func tail(list []api.Stat, repeat bool) int {
	n := len(list)
	if repeat {
		return n
	}
	for n > 0 && list[n-1].Kind == api.SLabel {
		n--
	}
	return n
}

// label visits a label.
func (r *resolver) label(s *api.Stat) {
	for _, b := range r.here.blocks {
		l, found := r.labels[place{b.number, s.Label}]
		require(!found || l.at >= b.at, api.ErrTwice, s.Line)
	}
}

// leave visits a break.
func (r *resolver) leave(s *api.Stat) {
	f := r.here
	require(len(f.loops) > 0, api.ErrForm, s.Line)
	out := f.seen - f.loops[len(f.loops)-1]
	r.jumps = append(r.jumps, Jump{Func: f.number, Line: s.Line, Out: out})
}

// jump visits a goto.
func (r *resolver) jump(s *api.Stat) {
	f := r.here
	for i := len(f.blocks) - 1; i >= 0; i-- {
		b := f.blocks[i]
		l, found := r.labels[place{b.number, s.Label}]
		if !found {
			continue
		}
		back := l.at < b.at
		// Between this place and a label after it, the block may not declare a variable.
		require(back || l.more <= b.more, api.ErrLabel, s.Line)
		out := f.seen - b.before - l.more
		r.jumps = append(r.jumps, Jump{Func: f.number, Line: s.Line, Label: s.Label, Out: out, Back: back})
		return
	}
	fail(api.ErrLabel, s.Line)
}
