package dedup_test

import (
	"slices"
	"testing"

	"factotum/api"
	"factotum/dedup"
)

// P16.1, P3: of nothing, which is a Table all the same.
func TestNewOfNothing(t *testing.T) {
	for _, l := range [][]api.Last{nil, {}, make([]api.Last, 3)} {
		x := dedup.New(l...)
		mustHold(t, "nothing", x)
		mustAnswer(t, x, 5, 2, api.ErrGap)
		mustAnswer(t, x, 5, 1, api.OK)
		mustHold(t, "one taken", x, last(5, 1))
	}
	mustHold(t, "no arguments", dedup.New())
}

// P16.1: of one, of each size.
func TestNewOfOne(t *testing.T) {
	for _, ident := range numbers(7)[1:] {
		for _, id := range numbers(9)[1:] {
			mustHold(t, "one", dedup.New(last(ident, id)), last(ident, id))
		}
	}
}

// P16.1: of several identities, in each order.
func TestNewInEachOrder(t *testing.T) {
	l := []api.Last{last(1, 9), last(2, 1), last(256, 1<<40), last(1<<32+1, 1<<32), last(greatest, greatest)}
	for n := range len(l) + 1 {
		for _, o := range orders(l[:n]) {
			mustHold(t, "an order", dedup.New(o...), l[:n]...)
		}
	}
}

// P16.1: of one identity the greatest Id, wherever it stands, and however often; others stay beside it.
func TestNewOfOneIdentity(t *testing.T) {
	for _, l := range [][]uint64{
		{9, 3}, {3, 9}, {9, 3, 1}, {3, 9, 1}, {1, 3, 9}, {9, 9}, {3, 3, 9, 9, 3, 3}, {9, 8, 7, 6, 5, 4, 3, 2, 1}, {1, 2, 3, 4, 5, 6, 7, 8, 9},
	} {
		var same, amid []api.Last
		for _, id := range l {
			same = append(same, last(5, id))
			amid = append(amid, last(4, 12-id), last(5, id), last(6, id+100))
		}
		mustHold(t, "of one identity", dedup.New(same...), last(5, 9))
		mustHold(t, "amid others", dedup.New(amid...), last(4, 12-slices.Min(l)), last(5, 9), last(6, 109))
	}
	for _, id := range []uint64{1, 2, 1 << 31, 1 << 32, 1 << 53, 1<<63 - 1, 1 << 63, greatest - 1} {
		for _, o := range orders([]api.Last{last(5, id), last(5, id+1), last(5, 1)}) {
			mustHold(t, "beside each other", dedup.New(o...), last(5, id+1))
		}
	}
	for _, o := range orders([]api.Last{last(5, 1<<63+1), last(5, 1<<32+2), last(5, 3), last(5, 1<<53)}) {
		mustHold(t, "far from each other", dedup.New(o...), last(5, 1<<63+1))
	}
}

// P16.1: Idents and Ids that are 0 are passed over, wherever they stand; those behind them are not.
func TestNewOfNoughts(t *testing.T) {
	for _, l := range [][]api.Last{{{}}, {last(0, 9)}, {last(9, 0)}, {last(0, greatest), last(greatest, 0), {}}} {
		mustHold(t, "noughts", dedup.New(l...))
	}
	fine := []api.Last{last(2, 4), last(5, 3)}
	for _, nought := range []api.Last{{}, last(0, 1), last(0, greatest), last(1, 0), last(2, 0), last(5, 0), last(6, 0), last(greatest, 0)} {
		for _, o := range orders(append([]api.Last{nought, nought}, fine...)) {
			mustHold(t, "noughts amid others", dedup.New(o...), fine...)
		}
	}
	x := dedup.New(last(7, 0), last(0, 7))
	mustAnswer(t, x, 7, 2, api.ErrGap)
	mustAnswer(t, x, 7, 1, api.OK)
}

// P16.1: the greatest Ident and the greatest Id that there are, beside lesser ones.
func TestNewOfTheGreatest(t *testing.T) {
	for _, o := range orders([]api.Last{last(greatest, greatest), last(greatest, 1), last(1, greatest), last(greatest-1, 2)}) {
		mustHold(t, "the greatest", dedup.New(o...), last(1, greatest), last(greatest-1, 2), last(greatest, greatest))
	}
}

// P16.1: Last of identities that were told, that weren't, and of 0.
func TestLast(t *testing.T) {
	x := dedup.New(last(5, 2), last(5, 1), last(0, 9), last(2, 1), last(8, 0), last(greatest, 7))
	for _, want := range []api.Last{
		last(0, 0), last(1, 0), last(2, 1), last(3, 0), last(4, 0), last(5, 2), last(6, 0), last(8, 0), last(1<<32+5, 0), last(greatest-1, 0), last(greatest, 7),
	} {
		for range 2 {
			if id := x.Last(want.Ident); id != want.Id {
				t.Errorf("Last(%d) is %d, not %d", want.Ident, id, want.Id)
			}
		}
	}
	mustHold(t, "looked up", x, last(2, 1), last(5, 2), last(greatest, 7))
}

// P2: what is handed in stays as it was, what lies behind its length plays no part, and what becomes of it later isn't seen.
func TestNewKeepsNothingHandedIn(t *testing.T) {
	given := []api.Last{last(5, 2), last(5, 1), {}, last(0, 4), last(4, 0), last(2, 8), last(5, 3), last(6, 6)}
	was := slices.Clone(given)
	for n := range len(given) + 1 {
		x, alike := dedup.New(given[:n]...), dedup.New(given[:n:n]...)
		if !slices.Equal(given, was) {
			t.Fatalf("what was handed in is %v, not %v", given, was)
		}
		want := all(alike)
		mustHold(t, "nothing behind", alike, want...)
		mustHold(t, "something behind", x, want...)
		for i := range given {
			given[i] = last(5, 99)
		}
		mustHold(t, "spoilt", x, want...)
		copy(given, was)
		mustTake(t, "taken", x, 5, x.Last(5)+1, api.OK)
		mustTake(t, "taken", x, 9, 1, api.OK)
		for range x.All() {
			x.Copy()
		}
		if !slices.Equal(given, was) {
			t.Fatalf("what was handed in is %v, not %v, behind a Take", given, was)
		}
	}
}

// P2: two Tables of one list are two.
func TestTwoTables(t *testing.T) {
	l := []api.Last{last(5, 2), last(6, 1)}
	x, y := dedup.New(l...), dedup.New(l...)
	mustTake(t, "x", x, 5, 3, api.OK)
	mustTake(t, "x", x, 7, 1, api.OK)
	mustTake(t, "y", y, 6, 2, api.OK)
	mustHold(t, "x", x, last(5, 3), last(6, 1), last(7, 1))
	mustHold(t, "y", y, last(5, 2), last(6, 2))
}
