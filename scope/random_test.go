package scope_test

import (
	"strings"
	"testing"

	"scripting/api"
	"scripting/scope"
	"scripting/tree"
)

// chance is a sequence of numbers that look like those of chance.
type chance uint64

// below returns a number from 0 to n - 1.
func (c *chance) below(n int) int {
	*c = *c*6364136223846793005 + 1442695040888963407
	return int(uint64(*c) >> 33 % uint64(n))
}

// one returns a word of a text.
func (c *chance) one(s string) string {
	l := strings.Fields(s)
	return l[c.below(len(l))]
}

// many returns the texts of some parts, with commas between them.
func (c *chance) many(least, most int, part func() string) string {
	var l []string
	for range least + c.below(most-least+1) {
		l = append(l, part())
	}
	return strings.Join(l, ", ")
}

// author writes chunks with few names, so that these are often declared, used, hidden and captured.
type author struct {
	*chance
	loops  int  // how many loops there are around a statement
	vararg bool // whether the function has varargs
}

func (a author) name() string { return a.one("a b c d e") }

func (a author) plain() string { return a.many(1, 3, a.name) }

func (a author) attributed() string {
	return a.many(1, 3, func() string { return a.name() + []string{"", "", "", " <const>", " <close>"}[a.below(5)] })
}

func (a author) label() string { return a.one("x y z w") }

func (a author) exprs(depth int) string {
	return a.many(1, 3, func() string { return a.expr(depth) })
}

// left returns a left side.
func (a author) left() string {
	return a.name() + []string{"", "", "", ".a", "[b]", "[c]"}[a.below(6)]
}

// block returns the text of a block, of which each statement begins a new line.
func (a author) block(depth int) string {
	var b strings.Builder
	for range a.below(6) {
		b.WriteString("\n" + a.stat(depth) + ";")
	}
	switch a.below(8) {
	case 0:
		b.WriteString("\nreturn " + a.exprs(depth))
	case 1:
		b.WriteString("\n::" + a.label() + "::")
	case 2:
		b.WriteString("\n::" + a.label() + "::\n::" + a.label() + "::")
	}
	return b.String()
}

func (a author) stat(depth int) string {
	n := a.below(20)
	if depth <= 0 && n >= 12 {
		n -= 8
	}
	switch n {
	case 0, 1:
		return "local " + a.attributed()
	case 2:
		return "local " + a.attributed() + " = " + a.exprs(depth)
	case 3:
		return "local function " + a.name() + a.body(depth)
	case 4, 5:
		return a.many(1, 2, a.left) + " = " + a.exprs(depth)
	case 6:
		return a.name() + "(" + a.exprs(depth) + ")"
	case 7, 8:
		return "goto " + a.label()
	case 9:
		return "::" + a.label() + "::"
	case 10, 11:
		if a.loops > 0 || a.below(20) == 0 {
			return "break"
		}
		return "goto " + a.label()
	case 12:
		return "function " + a.name() + []string{"", ".a", ":b", ".a.b:c"}[a.below(4)] + a.body(depth)
	case 13, 14:
		return "do" + a.inside(depth)
	case 15:
		return "if " + a.expr(depth) + " then" + a.block(depth-1) + "\nelseif " + a.expr(depth) + " then" + a.block(depth-1) + "\nelse" + a.inside(depth)
	}
	return a.loop(depth)
}

// inside returns the text of the last block of a statement.
func (a author) inside(depth int) string { return a.block(depth-1) + "\nend" }

func (a author) loop(depth int) string {
	in := a
	in.loops++
	switch a.below(4) {
	case 0:
		return "while " + a.expr(depth) + " do" + in.inside(depth)
	case 1:
		return "repeat" + in.block(depth-1) + "\nuntil " + a.expr(depth)
	case 2:
		return "for " + a.name() + " = " + a.many(2, 3, func() string { return a.expr(depth) }) + " do" + in.inside(depth)
	}
	return "for " + a.plain() + " in " + a.exprs(depth) + " do" + in.inside(depth)
}

// body returns the text of a function from its parameters on.
func (a author) body(depth int) string {
	a.loops, a.vararg = 0, a.below(2) == 0
	params := "()"
	switch {
	case a.vararg && a.below(2) == 0:
		params = "(...)"
	case a.vararg:
		params = "(" + a.plain() + ", ...)"
	case a.below(2) == 0:
		params = "(" + a.plain() + ")"
	}
	return params + a.block(depth-1) + "\nend"
}

func (a author) expr(depth int) string {
	n := a.below(10)
	if depth <= 0 && n < 4 {
		n += 5
	}
	switch n {
	case 0, 1:
		return "function" + a.body(depth)
	case 2:
		return "{" + a.expr(depth-1) + ", a = " + a.expr(depth-1) + ", [" + a.name() + "] = " + a.name() + "}"
	case 3:
		return a.name() + " .. " + a.expr(depth-1) + "\n.. -" + a.name() + ".a"
	case 4:
		if a.vararg || a.below(20) == 0 {
			return "(...)"
		}
		return "nil"
	case 5:
		return a.name() + ":a(" + a.name() + ")"
	}
	return a.name()
}

// TestTextsByChance compares the results for many chunks with the definitions. A wrong jump or label is taken out, so
// that the other errors are found, too, and that large chunks without an error are left.
func TestTextsByChance(t *testing.T) {
	c := chance(1)
	seen := map[int]int{}
	for range 5000 {
		lines := strings.Split(author{chance: &c, vararg: true}.block(1+c.below(5)), "\n")
		for again := true; again; {
			text := strings.Join(lines, "\n")
			b := read(t, text)
			if tree.Size(b) > 250 {
				break
			}
			e := agrees(t, text, b)
			seen[int(e)]++
			line, _ := scope.Check(b)
			again = line > 0 && isJump(lines[line-1])
			if again {
				lines[line-1] = ""
			}
		}
	}
	for _, e := range []api.Errno{api.OK, api.ErrForm, api.ErrTwice, api.ErrConst, api.ErrLabel} {
		if seen[int(e)] < 250 {
			t.Errorf("only %d chunks with the error %d", seen[int(e)], int(e))
		}
	}
}

// isJump reports whether a line of a text is a jump or a label.
func isJump(line string) bool {
	return line == "break;" || strings.HasPrefix(line, "goto ") || strings.HasPrefix(line, "::")
}
