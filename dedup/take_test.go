package dedup_test

import (
	"testing"

	"factotum/api"
	"factotum/dedup"
)

// Example 1 of the chapter.
func TestExample(t *testing.T) {
	x := dedup.New()
	mustTake(t, "the example", x, 7, 1, api.OK)
	mustTake(t, "the example", x, 7, 1, api.ErrOld)
	mustTake(t, "the example", x, 7, 3, api.ErrGap)
	mustHold(t, "the example", x, last(7, 1))
}

// P16.2: an ident of 0, an id of 0, both: ErrRange, whatever else would apply.
func TestNoughts(t *testing.T) {
	for _, l := range [][]api.Last{nil, {last(5, 2)}, {last(5, greatest), last(greatest, 1)}} {
		for _, n := range numbers(5) {
			mustAnswer(t, dedup.New(l...), 0, n, api.ErrRange)
			mustAnswer(t, dedup.New(l...), n, 0, api.ErrRange)
		}
	}
}

// P16.2: below Last, Last, one above it, two above it, far above it.
func TestAroundLast(t *testing.T) {
	for _, x := range []struct {
		last, id uint64
		e        api.Errno
	}{
		{1, 1, api.ErrOld}, {1, 2, api.OK}, {1, 3, api.ErrGap}, {1, greatest, api.ErrGap},
		{2, 1, api.ErrOld}, {2, 2, api.ErrOld}, {2, 3, api.OK}, {2, 4, api.ErrGap},
		{9, 1, api.ErrOld}, {9, 5, api.ErrOld}, {9, 8, api.ErrOld}, {9, 9, api.ErrOld}, {9, 10, api.OK}, {9, 11, api.ErrGap}, {9, 12, api.ErrGap}, {9, 1000, api.ErrGap},
		{9, 1<<32 + 9, api.ErrGap}, {9, 1<<32 + 10, api.ErrGap}, {9, 1<<63 + 10, api.ErrGap}, {9, 1 << 63, api.ErrGap}, {9, greatest, api.ErrGap},
		{255, 256, api.OK}, {256, 1, api.ErrOld}, {65535, 65536, api.OK}, {1<<31 - 1, 1 << 31, api.OK},
		{1<<32 - 1, 1 << 32, api.OK}, {1 << 32, 1, api.ErrOld}, {1<<53 - 1, 1 << 53, api.OK}, {1 << 53, 1<<53 + 1, api.OK}, {1 << 53, 1<<53 + 2, api.ErrGap},
		{1<<63 - 1, 1 << 63, api.OK}, {1<<63 - 1, 1<<63 + 1, api.ErrGap}, {1 << 63, 1<<63 + 1, api.OK}, {1 << 63, 1, api.ErrOld}, {1<<63 + 9, 10, api.ErrOld},
	} {
		mustAnswer(t, dedup.New(last(5, x.last)), 5, x.id, x.e)
		mustAnswer(t, dedup.New(last(4, x.id), last(5, x.last), last(6, greatest), last(7, 1)), 5, x.id, x.e)
	}
}

// P16.2: an identity that has no last number begins with 1.
func TestTheFirstOfAnIdentity(t *testing.T) {
	for _, l := range [][]api.Last{nil, {last(4, 1), last(6, 2)}, {last(5, 0), last(1, 1)}, {last(4, greatest), last(6, greatest)}} {
		mustAnswer(t, dedup.New(l...), 5, 1, api.OK)
		for _, id := range numbers(5)[2:] {
			mustAnswer(t, dedup.New(l...), 5, id, api.ErrGap)
		}
	}
	for _, ident := range numbers(5)[1:] {
		x := dedup.New()
		mustAnswer(t, x, ident, 2, api.ErrGap)
		mustAnswer(t, x, ident, greatest, api.ErrGap)
		mustAnswer(t, x, ident, 1, api.OK)
		mustAnswer(t, x, ident, 1, api.ErrOld)
		mustAnswer(t, x, ident, 2, api.OK)
	}
}

// P16.2: behind the greatest number there is none; just below it there is one.
func TestTheGreatestNumber(t *testing.T) {
	for _, id := range numbers(5)[1:] {
		mustAnswer(t, dedup.New(last(5, greatest)), 5, id, api.ErrOld)
		mustAnswer(t, dedup.New(last(greatest, greatest), last(5, 3)), greatest, id, api.ErrOld)
	}
	x := dedup.New(last(5, greatest-2))
	mustAnswer(t, x, 5, greatest, api.ErrGap)
	mustAnswer(t, x, 5, greatest-2, api.ErrOld)
	mustAnswer(t, x, 5, greatest-1, api.OK)
	mustAnswer(t, x, 5, 1, api.ErrOld)
	mustAnswer(t, x, 5, 0, api.ErrRange)
	mustAnswer(t, x, 5, greatest, api.OK)
	for _, id := range []uint64{1, 2, greatest - 1, greatest} {
		mustAnswer(t, x, 5, id, api.ErrOld)
	}
	mustAnswer(t, x, 5, 0, api.ErrRange)
	mustAnswer(t, x, 6, 1, api.OK)
}

// P16.2: all numbers around each Last, held against the chapter's words.
func TestManyAroundLast(t *testing.T) {
	for _, n := range numbers(100)[1:] {
		for _, id := range numbers(n) {
			mustAnswer(t, dedup.New(last(5, n), last(6, 1)), 5, id, words(n, 5, id))
		}
	}
}

// P16.2: Take changes just the one identity's Last, and only where it is OK.
func TestTakeOfSeveral(t *testing.T) {
	x := dedup.New(last(3, 1), last(9, 4))
	for i, y := range []struct {
		ident, id uint64
		e         api.Errno
		want      []api.Last
	}{
		{9, 4, api.ErrOld, []api.Last{last(3, 1), last(9, 4)}},
		{9, 6, api.ErrGap, []api.Last{last(3, 1), last(9, 4)}},
		{9, 5, api.OK, []api.Last{last(3, 1), last(9, 5)}},
		{0, 6, api.ErrRange, []api.Last{last(3, 1), last(9, 5)}},
		{9, 0, api.ErrRange, []api.Last{last(3, 1), last(9, 5)}},
		{3, 5, api.ErrGap, []api.Last{last(3, 1), last(9, 5)}},
		{3, 2, api.OK, []api.Last{last(3, 2), last(9, 5)}},
		{9, 6, api.OK, []api.Last{last(3, 2), last(9, 6)}},
		{5, 6, api.ErrGap, []api.Last{last(3, 2), last(9, 6)}},
		{5, 1, api.OK, []api.Last{last(3, 2), last(5, 1), last(9, 6)}},
		{1, 1, api.OK, []api.Last{last(1, 1), last(3, 2), last(5, 1), last(9, 6)}},
		{greatest, 1, api.OK, []api.Last{last(1, 1), last(3, 2), last(5, 1), last(9, 6), last(greatest, 1)}},
		{9, 1, api.ErrOld, []api.Last{last(1, 1), last(3, 2), last(5, 1), last(9, 6), last(greatest, 1)}},
	} {
		mustAsk(t, "several", x, y.ident, y.id, y.e)
		mustTake(t, "several", x, y.ident, y.id, y.e)
		mustHold(t, "several", x, y.want...)
		if t.Failed() {
			t.Fatal(i)
		}
	}
}

// P16.2, P3: what was asked ahead plays no part in what is taken.
func TestAskedAhead(t *testing.T) {
	x := dedup.New(last(5, 2))
	for range 5 {
		mustAsk(t, "asked", x, 5, 3, api.OK)
		mustAsk(t, "asked", x, 5, 4, api.ErrGap)
		mustAsk(t, "asked", x, 6, 1, api.OK)
	}
	mustHold(t, "asked", x, last(5, 2))
	mustTake(t, "asked", x, 5, 4, api.ErrGap)
	mustTake(t, "asked", x, 5, 3, api.OK)
	mustTake(t, "asked", x, 6, 1, api.OK)
	mustHold(t, "taken", x, last(5, 3), last(6, 1))
}

// nobodys are Tables that nobody made.
func nobodys() []*dedup.Table {
	var zero dedup.Table
	return []*dedup.Table{nil, {}, new(dedup.Table), &zero}
}

// P16.2: a Table that nobody made: 0, ErrRange, nothing, whatever it is asked for, and however often.
func TestATableThatNobodyMade(t *testing.T) {
	for i, x := range nobodys() {
		for range 2 {
			for _, ident := range numbers(5) {
				for _, id := range numbers(3) {
					mustAsk(t, "nobody's", x, ident, id, api.ErrRange)
					mustTake(t, "nobody's", x, ident, id, api.ErrRange)
				}
				if n := x.Last(ident); n != 0 {
					t.Fatalf("%d: Last(%d) is %d", i, ident, n)
				}
			}
			for y := range x.All() {
				t.Fatalf("%d: All tells %v", i, y)
			}
			if c := x.Copy(); c != nil {
				t.Fatalf("%d: Copy is %v", i, c)
			}
		}
	}
}
