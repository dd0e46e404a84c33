package clog_test

import (
	"math"
	"slices"
	"strings"
	"testing"

	"factotum/api"
	"factotum/clog"
)

// Example 1 of the chapter.
func TestExample(t *testing.T) {
	l := clog.New(0, api.State{}, lists(3)...)
	mustCompact(t, "the example", l, 2, true)
	mustAt(t, "the example", l, 1, told(api.State{}), false)
	three := api.State{Lists: []api.List{{Id: 100, Name: "l"}, {Id: 101, Name: "l"}, {Id: 102, Name: "l"}}}
	mustAt(t, "the example", l, 3, told(three), true)
}

// P17.1: each base that is taken as it is, with no items, one and several.
func TestNew(t *testing.T) {
	l, _ := some()
	for _, base := range bases() {
		for n := range len(l) + 1 {
			mustHold(t, "new", clog.New(base, small(), l[:n]...), begun(base, small(), l[:n]...))
		}
		mustHold(t, "nothing", clog.New(base, api.State{}), begun(base, api.State{}))
	}
}

// P17.1: many items.
func TestNewOfMany(t *testing.T) {
	for _, base := range []uint64{0, 5, mostGone, greatest} {
		l := lists(300)
		mustHold(t, "many", clog.New(base, small(), l...), begun(min(base, mostGone), small(), l...))
	}
}

// P17.1: a base above 2^40 counts as 2^40, whatever its lower bits are.
func TestNewOfABaseTooGreat(t *testing.T) {
	l, _ := some()
	for _, base := range []uint64{
		mostGone + 1, mostGone + 2, mostGone + 1<<32, mostGone + 1<<39, 2 * mostGone, 2*mostGone + 5, 1 << 62, 1<<63 - 1, 1 << 63, 1<<63 + 5, greatest - 1, greatest,
	} {
		for _, n := range []int{0, 1, len(l)} {
			mustHold(t, "too great", clog.New(base, small(), l[:n]...), begun(mostGone, small(), l[:n]...))
		}
	}
}

// P17.1: a state that isn't in order is put in order; one that isn't Right then counts as none.
func TestNewOfAnyState(t *testing.T) {
	turned := small()
	slices.Reverse(turned.Tasks)
	doubled := small()
	doubled.Lists = append(doubled.Lists, api.List{Id: 2, Name: "again"})
	doubled.Tasks = append(doubled.Tasks, api.Task{Id: 3, List: 2, Title: "again"})
	for _, s := range []api.State{
		small(), turned, doubled,
		changed(func(x *api.Task) { x.Tags = []string{"d", "b", "d"} }),
	} {
		mustBegin(t, "in order", s, small())
	}
	nought := changed(func(x *api.Task) { x.Rank = 0 })
	mustBegin(t, "a nought with a sign", changed(func(x *api.Task) { x.Rank = math.Copysign(0, -1) }), nought)
	for _, s := range []api.State{
		{}, {Lists: []api.List{}, Tasks: []api.Task{}}, {Lists: make([]api.List, 1)}, {Lists: []api.List{{Id: 2}}}, {Tasks: small().Tasks},
		{Lists: []api.List{{Id: 2, Name: strings.Repeat("a", 61)}}},
		changed(func(x *api.Task) { x.List = 4 }),
		changed(func(x *api.Task) { x.Title = "" }),
		changed(func(x *api.Task) { x.Rank = math.NaN() }),
		changed(func(x *api.Task) { x.Tags = []string{"a", "b", "c", "d", "e"} }),
	} {
		mustBegin(t, "not Right", s, api.State{})
	}
}

// mustBegin asks that Logs of s begin with the state want, and go on from there.
func mustBegin(t *testing.T, what string, s, want api.State) {
	t.Helper()
	l, _ := some()
	for _, base := range []uint64{0, 5, mostGone} {
		for n := range len(l) + 1 {
			x := clog.New(base, s, l[:n]...)
			mustAt(t, what, x, base, told(want), true)
			mustHold(t, what, x, begun(base, want, l[:n]...))
		}
	}
}

// P17.1: Add of none, of one, of several, again and again.
func TestAdd(t *testing.T) {
	for _, base := range bases() {
		x, p := clog.New(base, small()), begun(base, small())
		given, _ := some()
		for i, n := range []int{0, 1, 0, 2, 6, 1, 1, 0, 3, 6} {
			x.Add(given[:n]...)
			p = p.with(given[:n]...)
			mustHold(t, "again", x, p)
			x.Add()
			x.Add([]api.Item{}...)
			mustHold(t, "none", x, p)
			given[0].Id += uint64(i)
		}
	}
}

// P17.1: what is added one by one is as what New was told, and as what is added at once, in parts of each size.
func TestAddInParts(t *testing.T) {
	l, _ := some()
	p := begun(5, small(), l...)
	for i := range len(l) + 1 {
		for j := i; j <= len(l); j++ {
			x := clog.New(5, small(), l[:i]...)
			x.Add(l[i:j]...)
			x.Add(l[j:]...)
			mustHold(t, "parts", x, p)
		}
	}
	x := clog.New(5, small())
	for _, y := range l {
		x.Add(y)
	}
	mustHold(t, "one by one", x, p)
}

// P17.1: very many items, one by one and at once.
func TestAddOfVeryMany(t *testing.T) {
	x, y := clog.New(7, small()), clog.New(7, small())
	var l []api.Item
	for i := range uint64(3000) {
		l = append(l, edit(i+1, 3+i%2, strings.Repeat("t", 1+int(i%60))))
		x.Add(l[i])
	}
	y.Add(l...)
	mustHold(t, "one by one", x, begun(7, small(), l...))
	mustHold(t, "at once", y, begun(7, small(), l...))
}

// P17.1: who issued an item, and its number, play no part, and are told as they were; an item may be there many times.
func TestAnyIdents(t *testing.T) {
	var l []api.Item
	for _, ident := range []uint64{0, 1, 5, 1 << 40, greatest} {
		for _, id := range []uint64{0, 1, 2, 1 << 63, greatest} {
			x := api.Item{Ident: ident, Id: id, Mut: api.Mut{Kind: api.MutEdit, Id: 3, Text: "same"}}
			l = append(l, x, x)
		}
	}
	mustHold(t, "idents", clog.New(3, small(), l...), begun(3, small(), l...))
}

// P2: what was handed in stays as it was, what lies behind its length plays no part, and what becomes of it later isn't seen.
func TestNothingHandedInIsKept(t *testing.T) {
	l, _ := some()
	for n := range len(l) + 1 {
		s, first, then := roomyState(small()), roomyItems(l[:n]), roomyItems(l[n:])
		was, wasThen := handedIn(s, first), handedIn(s, then)
		x := clog.New(5, s, first...)
		p := begun(5, small(), l[:n]...)
		mustHold(t, "New", x, p)
		if is := handedIn(s, first); is != was {
			t.Fatalf("what was handed in is\n%s, not\n%s", is, was)
		}
		spoilItems(first[:cap(first)])
		mustHold(t, "items spoilt", x, p)
		x.Add(then...)
		p = p.with(l[n:]...)
		mustHold(t, "Add", x, p)
		mustCompact(t, "Add", x.Copy(), 6, true)
		if is := handedIn(s, then); is != wasThen {
			t.Fatalf("what was handed in is\n%s, not\n%s", is, wasThen)
		}
		spoilItems(then[:cap(then)])
		spoilState(s)
		mustHold(t, "all spoilt", x, p)
	}
}

// P2: two Logs of the same things are two.
func TestTwoLogs(t *testing.T) {
	l, _ := some()
	s := small()
	x, y := clog.New(5, s, l...), clog.New(5, s, l...)
	x.Add(l[0])
	mustCompact(t, "x", x, 8, true)
	mustHold(t, "y", y, begun(5, small(), l...))
	y.Add(l[5], l[5])
	mustHold(t, "x", x, begun(5, small(), append(slices.Clone(l), l[0])...).from(8))
	mustHold(t, "y", y, begun(5, small(), append(slices.Clone(l), l[5], l[5])...))
}
