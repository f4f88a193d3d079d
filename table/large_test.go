package table_test

import (
	"testing"

	"scripting/api"
	"scripting/table"
)

// many is a number of entries with which these tests would take very long if each of their calls looked at all of
// the entries.
const many = 200000

// TestFillingFromTheEnd covers P13.2 for a sequence that is filled from its end.
func TestFillingFromTheEnd(t *testing.T) {
	o := table.New()
	for i := many; i > 1; i-- {
		set(t, o, num(i), num(i))
	}
	wantParts(t, o, 0, many-1, many-1)
	set(t, o, num(1), num(1))
	wantParts(t, o, many, many, 0)
	for i := 1; i <= many; i++ {
		wantGet(t, o, num(i), num(i))
	}
}

// TestFillingTheGaps covers P13.2 for a sequence whose gaps are filled one after the other: the map part is replaced
// each time.
func TestFillingTheGaps(t *testing.T) {
	o := table.New()
	for i := 2; i <= many; i += 2 {
		set(t, o, num(i), num(i))
	}
	set(t, o, str("x"), num(0))
	for i := 1; i <= many; i += 2 {
		set(t, o, num(i), num(i))
		if slots := (many-i-1)/2 + 1; o.Len() != i+1 || o.Size() != 4+2*(i+1)+4*slots {
			t.Fatalf("after %d: Len %d, Size %d", i, o.Len(), o.Size())
		}
	}
	wantParts(t, o, many, many+1, 1)
	wantNext(t, o, num(many), str("x"), num(0))
}

// TestRemovingTheFirst covers P13.4 for the first entry of a table that is removed, again and again.
func TestRemovingTheFirst(t *testing.T) {
	o := table.New()
	for i := 1; i <= many; i++ {
		set(t, o, num(i), num(i))
	}
	set(t, o, str("x"), num(0))
	for i := 1; i <= many; i++ {
		k, v, found, e := o.Next(none)
		if k != num(i) || v != num(i) || !found || e != api.OK {
			t.Fatalf("Next: %v, %v, %v, error %d; want %d", k, v, found, int(e), i)
		}
		set(t, o, k, none)
	}
	wantParts(t, o, 0, 1, 1)
	wantNext(t, o, none, str("x"), num(0))
}

// TestGoingThroughAll covers P13.4 and P13.8 for a table that is emptied on the way.
func TestGoingThroughAll(t *testing.T) {
	o := table.New()
	for i := 1; i <= many; i++ {
		set(t, o, num(i), num(i))
		set(t, o, num(-i), num(i))
	}
	n := 0
	k, _, found, _ := o.Next(none)
	for ; found; k, _, found, _ = o.Next(k) {
		set(t, o, k, none)
		n++
	}
	if n != 2*many {
		t.Errorf("%d entries", n)
	}
	wantParts(t, o, 0, 0, many)
}
