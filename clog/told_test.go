package clog_test

import (
	"math"
	"slices"
	"testing"

	"factotum/api"
	"factotum/clog"
)

// P17.1: At by hand: each state behind just so many items, those that have an error counted, and none outside.
func TestAt(t *testing.T) {
	l, states := some()
	for _, base := range bases() {
		x := clog.New(base, small(), l...)
		for i, want := range states {
			mustAt(t, "by hand", x, base+uint64(i), told(want), true)
		}
		for _, v := range []uint64{base - 1, base - 2, base + 7, base + 8, base + 1<<32, base + 1<<63, greatest} {
			mustAt(t, "outside", x, v, told(api.State{}), false)
		}
		if base > 0 {
			mustAt(t, "outside", x, 0, told(api.State{}), false)
		}
	}
}

// P17.1: At of a Log without items.
func TestAtOfNoItems(t *testing.T) {
	for _, base := range bases() {
		x := clog.New(base, small())
		mustAt(t, "no items", x, base, told(small()), true)
		mustTellNothing(t, "no items", x, base-1)
		mustTellNothing(t, "no items", x, base+1)
		mustTellNothing(t, "no items", x, greatest)
	}
}

// P17.1: items that all have an error leave the state as it is, and count all the same.
func TestItemsWithErrors(t *testing.T) {
	l := slices.Repeat([]api.Item{edit(1, 4, "nobody"), {}, addList(2, 2)}, 4)
	x := clog.New(5, small(), l...)
	for v := uint64(5); v <= 17; v++ {
		mustAt(t, "errors", x, v, told(small()), true)
	}
	mustHold(t, "errors", x, begun(5, small(), l...))
	x.Add(edit(3, 3, "cook"))
	mustAt(t, "errors", x, 17, told(small()), true)
	mustAt(t, "errors", x, 18, told(changed(func(x *api.Task) { x.Title = "cook" })), true)
}

// P17.1: Items by hand: from each number on, each most.
func TestItems(t *testing.T) {
	l, _ := some()
	for _, base := range bases() {
		x := clog.New(base, small(), l...)
		for from := range len(l) + 1 {
			rest := l[from:]
			at := base + uint64(from)
			for _, most := range []int{math.MinInt, -1 << 32, -6, -1, 0} {
				mustItems(t, "none", x, at, most, nil, true)
			}
			for most := range len(rest) {
				mustItems(t, "some", x, at, most, rest[:most], true)
			}
			for _, most := range []int{len(rest), len(rest) + 1, len(rest) + 2, 1 << 31, 1 << 32, math.MaxInt} {
				mustItems(t, "all", x, at, most, rest, true)
			}
		}
		for _, from := range []uint64{base - 1, base - 6, base + 7, base + 12, base + 1<<32, base + 1<<63, greatest} {
			for _, most := range []int{math.MinInt, -1, 0, 1, 6, 7, math.MaxInt} {
				mustItems(t, "outside", x, from, most, nil, false)
			}
		}
	}
}

// P17.1: items are told as they were added, also what mutate refuses, to the bit.
func TestItemsAsTheyWere(t *testing.T) {
	var l []api.Item
	for _, f := range []float64{math.Copysign(0, -1), math.NaN(), math.Float64frombits(0xfff0000000000002), math.Inf(-1), 0.1} {
		l = append(l, api.Item{Ident: greatest, Id: 1 << 63, Mut: api.Mut{Kind: math.MinInt, Id: 8, List: greatest, Text: "\xff\n", F: f, Flag: true}})
	}
	mustHold(t, "as they were", clog.New(1, small(), l...), begun(1, small(), l...))
}

// P2: what was told ahead stays as it is, whatever is done later.
func TestWhatWasToldStays(t *testing.T) {
	l, states := some()
	x := clog.New(5, small(), l[:4]...)
	s, _ := x.At(8)
	all, _ := x.Items(5, math.MaxInt)
	two, _ := x.Items(7, 1)
	c := x.Copy()
	x.Add(l[4:]...)
	mustCompact(t, "later", x, 11, true)
	x.Add(l...)
	if told(s) != told(states[3]) || !slices.Equal(all, l[:4]) || !slices.Equal(two, l[2:3]) {
		t.Fatal(told(s), all, two)
	}
	mustHold(t, "the Copy", c, begun(5, small(), l[:4]...))
}

// P1, P17.2: a Log that nobody made tells 0, none and false, whatever it is asked for, and however often.
func TestALogThatNobodyMade(t *testing.T) {
	l, _ := some()
	var zero clog.Log
	for _, x := range []*clog.Log{nil, {}, new(clog.Log), &zero} {
		for range 2 {
			x.Add()
			mustEnd(t, "nobody's", x, 0, 0)
			for _, v := range append(begun(0, small(), l...).numbers(), bases()...) {
				mustTellNothing(t, "nobody's", x, v)
				mustCompact(t, "nobody's", x, v, false)
			}
			if c := x.Copy(); c != nil {
				t.Fatal(c)
			}
			x.Add(l...)
			x.Add(l[0])
		}
	}
}
