package dedup_test

import (
	"cmp"
	"slices"
	"testing"

	"factotum/api"
	"factotum/dedup"
)

// several are Lasts of seven identities, by Ident; their Ids don't rise with them.
func several() []api.Last {
	return []api.Last{last(1, 7), last(2, 1), last(10, 9), last(256, 2), last(1<<32, 1), last(1<<63, greatest), last(greatest, 3)}
}

// P16.2: All of no identity, one and many.
func TestAll(t *testing.T) {
	l := several()
	for n := range len(l) + 1 {
		if got := all(dedup.New(l[:n]...)); !slices.Equal(got, l[:n]) {
			t.Fatalf("%v, not %v", got, l[:n])
		}
	}
	var many, turned []api.Last
	for i := range uint64(3000) {
		many = append(many, last(i*i+1, i+1))
	}
	for i := range many {
		turned = append(turned, many[(i*1999+7)%len(many)])
	}
	if got := all(dedup.New(turned...)); !slices.Equal(got, many) {
		t.Fatal("many aren't told by Ident, each once")
	}
}

// P16.2: by Ident, in whatever order they were taken.
func TestAllInEachOrder(t *testing.T) {
	for _, l := range orders([]api.Last{last(2, 1), last(9, 1), last(1<<40, 1), last(1<<63+1, 1), last(greatest, 1)}) {
		x := dedup.New()
		for _, y := range l {
			mustTake(t, "an order", x, y.Ident, y.Id, api.OK)
			mustTake(t, "an order", x, y.Ident, y.Id, api.ErrOld)
		}
		mustTake(t, "an order", x, l[0].Ident, 2, api.OK)
		mustTake(t, "an order", x, l[0].Ident, 3, api.OK)
		slices.SortFunc(l, func(a, b api.Last) int { return cmp.Compare(a.Ident, b.Ident) })
		for i, y := range l {
			l[i].Id = x.Last(y.Ident)
		}
		mustHold(t, "an order", x, l...)
	}
}

// P16.2: what isn't taken, and what has a 0, isn't told.
func TestAllTellsNoNoughts(t *testing.T) {
	x := dedup.New(last(4, 0), last(0, 4), last(5, 1))
	mustTake(t, "a nought", x, 6, 0, api.ErrRange)
	mustTake(t, "a nought", x, 0, 1, api.ErrRange)
	mustTake(t, "a gap", x, 7, 2, api.ErrGap)
	mustAsk(t, "asked", x, 8, 1, api.OK)
	if n := x.Last(9); n != 0 {
		t.Fatal(n)
	}
	for range 2 {
		if l := all(x); !slices.Equal(l, []api.Last{last(5, 1)}) {
			t.Fatal(l)
		}
	}
}

// P5: All left behind each number of rounds, and gone through again; it does nothing more once it is left.
func TestAllLeft(t *testing.T) {
	l := several()
	x := dedup.New(l...)
	seq := x.All()
	for n := range len(l) {
		for range 2 {
			var got []api.Last
			seq(func(y api.Last) bool {
				got = append(got, y)
				return len(got) <= n
			})
			if !slices.Equal(got, l[:n+1]) {
				t.Fatalf("left behind %d rounds: %v", n+1, got)
			}
		}
		i := 0
		for y := range seq {
			if y != l[i] {
				t.Fatalf("%v in the place of %v", y, l[i])
			}
			if i == n {
				break
			}
			i++
		}
		if got := slices.Collect(seq); !slices.Equal(got, l) {
			t.Fatalf("gone through again: %v", got)
		}
	}
	mustHold(t, "left", x, l...)
}

// P5: All gone through within itself, each time left elsewhere than where the one around it is.
func TestAllWithinItself(t *testing.T) {
	l := several()
	seq := dedup.New(l...).All()
	i := 0
	for y := range seq {
		j := 0
		for z := range seq {
			if z != l[j] {
				t.Fatalf("within, at %d: %v in the place of %v", i, z, l[j])
			}
			if j++; j == len(l)-i {
				break
			}
		}
		if y != l[i] || j != len(l)-i {
			t.Fatalf("around, at %d: %v in the place of %v, %d within", i, y, l[i], j)
		}
		i++
	}
	if i != len(l) {
		t.Fatal(i)
	}
}

// P2: what is taken while All is told isn't told: it tells what was there when it was called.
func TestTakenWhileAllIsTold(t *testing.T) {
	first := []api.Last{last(3, 7), last(5, 1), last(9, 2)}
	x := dedup.New(first...)
	var got []api.Last
	for y := range x.All() {
		got = append(got, y)
		n := uint64(len(got))
		// Of the first identity, of the last one, of some that weren't there, amid them and behind them all.
		mustTake(t, "the first", x, 3, 7+n, api.OK)
		mustTake(t, "the last", x, 9, 2+n, api.OK)
		mustTake(t, "amid", x, 5+n, 1, api.OK)
		mustTake(t, "behind", x, 9+n, 1, api.OK)
	}
	if !slices.Equal(got, first) {
		t.Fatalf("%v, not %v", got, first)
	}
	mustHold(t, "behind it", x, last(3, 10), last(5, 1), last(6, 1), last(7, 1), last(8, 1), last(9, 5), last(10, 1), last(11, 1), last(12, 1))
}

// P2, P5: what is taken between two tellings isn't told by what was answered ahead, but by what is answered next.
func TestTakenBetweenTwoTellings(t *testing.T) {
	x := dedup.New(last(5, 2), last(9, 1))
	first := []api.Last{last(5, 2), last(9, 1)}
	seq := x.All()
	mustTake(t, "ahead of the first", x, 5, 3, api.OK)
	if l := slices.Collect(seq); !slices.Equal(l, first) {
		t.Fatalf("the first: %v", l)
	}
	mustTake(t, "between", x, 7, 1, api.OK)
	mustTake(t, "between", x, 9, 2, api.OK)
	if l := slices.Collect(seq); !slices.Equal(l, first) {
		t.Fatalf("the second: %v", l)
	}
	mustHold(t, "anew", x, last(5, 3), last(7, 1), last(9, 2))
	empty := dedup.New()
	none := empty.All()
	mustTake(t, "empty", empty, 1, 1, api.OK)
	if l := slices.Collect(none); len(l) != 0 {
		t.Fatalf("empty: %v", l)
	}
	mustHold(t, "anew", empty, last(1, 1))
}

// P2: two that are answered are two, also where one is left and the other goes on.
func TestTwoOfAll(t *testing.T) {
	l := several()
	x := dedup.New(l...)
	a := x.All()
	mustTake(t, "between", x, 2, 2, api.OK)
	b := x.All()
	for range a {
		break
	}
	l[1].Id = 2
	if got := slices.Collect(b); !slices.Equal(got, l) {
		t.Fatalf("b: %v", got)
	}
	if got := slices.Collect(a); !slices.Equal(got, several()) {
		t.Fatalf("a: %v", got)
	}
}

// P16.1, P16.2: New of what All tells holds the same, and goes on alike.
func TestNewOfAll(t *testing.T) {
	l := several()
	for n := range len(l) + 1 {
		x := dedup.New(l[:n]...)
		y := dedup.New(all(x)...)
		mustHold(t, "New of All", y, l[:n]...)
		for _, z := range []*dedup.Table{x, y} {
			mustAnswer(t, z, 2, z.Last(2)+1, api.OK)
			mustAnswer(t, z, 3, 1, api.OK)
			mustAnswer(t, z, 1<<63, 5, words(z.Last(1<<63), 1<<63, 5))
		}
		mustHold(t, "alike", y, all(x)...)
	}
}
