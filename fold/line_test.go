package fold_test

import (
	"fmt"
	"math"
	"slices"
	"testing"

	"factotum/api"
	"factotum/fold"
)

// P14.2: a Line that nobody made tells none, false and 0, whatever it is asked for, and however often.
func TestALineThatNobodyMade(t *testing.T) {
	l, _, _ := some()
	var zero fold.Line
	for i, x := range []*fold.Line{nil, {}, new(fold.Line), &zero} {
		for range 3 {
			for _, l := range [][]api.Item{nil, {}, l[:1], l, {addList(1, "l")}} {
				if e := x.Add(l...); len(e) != 0 {
					t.Fatalf("%d: Add of %d items: %v", i, len(l), e)
				}
				if n := x.Len(); n != 0 {
					t.Fatalf("%d: Len is %d", i, n)
				}
			}
			for _, n := range []int{math.MinInt, -2, -1, 0, 1, 2, 5, math.MaxInt} {
				if s, is := x.At(n); is || told(s) != "" {
					t.Fatalf("%d: At(%d): %t, %s", i, n, is, told(s))
				}
				if x.Trim(n) {
					t.Fatalf("%d: Trim(%d) holds", i, n)
				}
			}
		}
	}
}

// P14.2: New always makes one, of states of any kind, that tells the number 0.
func TestNew(t *testing.T) {
	for _, s := range append(wrong(), api.State{}) {
		mustLine(t, "wrong", fold.New(s), 0, []api.State{{}})
	}
	for _, s := range outOfOrder() {
		mustLine(t, "out of order", fold.New(s[0]), 0, []api.State{s[1]})
	}
	mustLine(t, "small", fold.New(small()), 0, []api.State{small()})
}

// P14.2: Add goes on from the end, with what the items ahead of it made.
func TestAddGoesOn(t *testing.T) {
	x := fold.New(api.State{})
	mustErr(t, "nothing", x.Add(), nil)
	mustErr(t, "nothing", x.Add([]api.Item{}...), nil)
	mustErr(t, "the first", x.Add(addList(2, "l")), []api.Errno{api.OK})
	mustErr(t, "again", x.Add(addList(2, "l"), addTask(3, 2, "t", 0)), []api.Errno{api.ErrThere, api.OK})
	mustErr(t, "again", x.Add(addTask(3, 2, "t", 0), drop(2), drop(2)), []api.Errno{api.ErrThere, api.OK, api.ErrList})
	one := api.State{Lists: []api.List{{Id: 2, Name: "l"}}}
	two := api.State{Lists: one.Lists, Tasks: []api.Task{{Id: 3, List: 2, Title: "t", Est: theNaN}}}
	mustLine(t, "all", x, 0, []api.State{{}, one, one, two, two, {}, {}})
}

// P14.2: Len counts items that have errors as it counts the others.
func TestLen(t *testing.T) {
	l, states, errs := some()
	x := fold.New(small())
	for i := range 20 {
		if n := x.Len(); n != i*5 {
			t.Fatal(n, i)
		}
		if e := x.Add(append(l, drop(99))...); len(e) != 5 || i == 0 && !slices.Equal(e[:4], errs) {
			t.Fatal(e)
		}
	}
	bad := fold.New(small())
	for i := range 20 {
		mustErr(t, "bad", bad.Add(drop(99)), []api.Errno{api.ErrList})
		mustLine(t, "bad", bad, 0, slices.Repeat([]api.State{small()}, i+2))
	}
	mustLine(t, "some", func() *fold.Line { x := fold.New(small()); x.Add(l...); return x }(), 0, states)
}

// P14.2: two Lines are two.
func TestTwoLines(t *testing.T) {
	l, states, errs := some()
	s := small()
	x, y := fold.New(s), fold.New(s)
	mustErr(t, "x", x.Add(l...), errs)
	mustLine(t, "y", y, 0, states[:1])
	mustErr(t, "y", y.Add(l[0]), errs[:1])
	if !y.Trim(1) {
		t.Fatal("y isn't trimmed")
	}
	mustLine(t, "x", x, 0, states)
	mustLine(t, "y", y, 1, states[1:2])
}

// P14.2: Trim of each number: the states ahead of it are told no more, and all else stays, also behind a further Add.
func TestTrim(t *testing.T) {
	l, states, errs := some()
	for n := range states {
		x := fold.New(small())
		x.Add(l...)
		if !x.Trim(n) {
			t.Fatalf("Trim(%d) doesn't hold", n)
		}
		mustLine(t, fmt.Sprintf("Trim(%d)", n), x, n, states[n:])
		mustErr(t, "behind a Trim", x.Add(), nil)
		mustErr(t, "behind a Trim", x.Add(edit(3, "z"), edit(4, "z")), []api.Errno{api.OK, api.ErrTask})
		z := with(func(x *api.Task) { x.Title, x.Est, x.Tags = "z", 4, []string{"b", "c", "d"} })
		mustLine(t, fmt.Sprintf("Trim(%d), Add", n), x, n, append(slices.Clone(states[n:]), z, z))
	}
	mustErr(t, "some", fold.New(small()).Add(l...), errs)
}

// P14.2: Trim of two numbers, one behind the other: the second holds, unless it is less.
func TestTrimTwice(t *testing.T) {
	l, states, _ := some()
	for n := range states {
		for m := range states {
			x := fold.New(small())
			x.Add(l...)
			x.Trim(n)
			what := fmt.Sprintf("Trim(%d), Trim(%d)", n, m)
			if is := x.Trim(m); is != (m >= n) {
				t.Fatalf("%s: %t", what, is)
			}
			first := max(n, m)
			mustLine(t, what, x, first, states[first:])
			if !x.Trim(first) || !x.Trim(first) {
				t.Fatalf("%s: not trimmed again", what)
			}
			mustLine(t, what+" again", x, first, states[first:])
		}
	}
}

// P14.2: Trim of a number that isn't told is false, and changes nothing, ahead of a Trim and behind it, and behind a further Add.
func TestTrimOutside(t *testing.T) {
	l, states, _ := some()
	for first := range states {
		x := fold.New(small())
		x.Add(l[:3]...)
		x.Trim(min(first, 3))
		x.Add(l[3:]...)
		x.Trim(first)
		for range 2 {
			for _, n := range outside(first, 4) {
				if x.Trim(n) {
					t.Fatalf("Trim(%d) of %d to 4 holds", n, first)
				}
			}
			mustLine(t, fmt.Sprintf("outside of %d to 4", first), x, first, states[first:])
		}
	}
	x := fold.New(small())
	for _, n := range outside(0, 0) {
		if x.Trim(n) {
			t.Fatalf("Trim(%d) of no items holds", n)
		}
	}
	if !x.Trim(0) {
		t.Fatal("Trim(0) of no items doesn't hold")
	}
	mustLine(t, "no items", x, 0, states[:1])
}

// P14.2: a Line that is trimmed behind each item goes on, with one state each time.
func TestTrimBehindEach(t *testing.T) {
	x := fold.New(small())
	for i := range 2000 {
		title := fmt.Sprint("t", i)
		mustErr(t, "one more", x.Add(edit(3, title)), []api.Errno{api.OK})
		if !x.Trim(i+1) || x.Trim(i) {
			t.Fatal("Trim at", i)
		}
		if i%100 == 0 {
			mustLine(t, "one more", x, i+1, []api.State{with(func(x *api.Task) { x.Title = title })})
		}
	}
}

// P2: what was handed in, changed later, changes nothing that a Line tells; nor does what it told.
func TestALineKeepsNothingHandedIn(t *testing.T) {
	l, states, errs := some()
	s := roomy(small())
	x := fold.New(s)
	spoil(s)
	mustLine(t, "New", x, 0, states[:1])
	for i := range l {
		given := roomyItems(l[i : i+1])
		e := x.Add(given...)
		mustErr(t, "Add", e, errs[i:i+1])
		spoilItems(given)
		spoilErrs(e)
		mustLine(t, "Add", x, 0, states[:i+2])
	}
	for n := range states {
		x.Trim(n)
		for i := n; i < len(states); i++ {
			s, _ := x.At(i)
			spoil(s)
		}
		mustLine(t, "Trim", x, n, states[n:])
	}
	mustErr(t, "behind all", x.Add(edit(3, "a")), []api.Errno{api.OK})
	mustLine(t, "behind all", x, 4, []api.State{states[4], states[4]})
}

// P2: what a Line or Each told ahead stays as it is, whatever is done later.
func TestWhatIsToldStays(t *testing.T) {
	l, states, _ := some()
	x := fold.New(small())
	x.Add(l[:3]...)
	var kept []api.State
	for n := range 4 {
		s, _ := x.At(n)
		kept = append(kept, s)
	}
	e := x.Add(l[3:]...)
	x.Trim(2)
	f := x.Add(drop(2), drop(2))
	x.Trim(6)
	mustErr(t, "kept", e, []api.Errno{api.OK})
	mustErr(t, "kept", f, []api.Errno{api.OK, api.ErrList})
	for n, s := range kept {
		mustBe(t, "kept", s, states[n])
	}
	mustLine(t, "the Line", x, 6, []api.State{{}})
}
