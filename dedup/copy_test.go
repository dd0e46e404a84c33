package dedup_test

import (
	"testing"

	"factotum/api"
	"factotum/dedup"
)

// P16.2: a Copy of nothing, of one and of many is as it was.
func TestCopy(t *testing.T) {
	l := several()
	for n := range len(l) + 1 {
		x := dedup.New(l[:n]...)
		c := x.Copy()
		if c == nil || c == x {
			t.Fatal("not a Table of its own")
		}
		mustHold(t, "a Copy", c, l[:n]...)
		mustHold(t, "what was copied", x, l[:n]...)
	}
}

// P16.2: whatever is taken of the one leaves the other as it was, each way.
func TestCopyIsItsOwn(t *testing.T) {
	l := []api.Last{last(5, 2), last(6, greatest-1)}
	for turn := range 2 {
		x := dedup.New(l...)
		y := x.Copy()
		if turn == 1 {
			x, y = y, x
		}
		mustAnswer(t, x, 5, 3, api.OK)
		mustAnswer(t, x, 7, 1, api.OK)
		mustAnswer(t, x, 6, greatest, api.OK)
		mustHold(t, "the other", y, l...)
		mustAnswer(t, y, 5, 3, api.OK)
		mustAnswer(t, y, 5, 4, api.OK)
		mustAnswer(t, y, 1, 1, api.OK)
		mustHold(t, "the one", x, last(5, 3), last(6, greatest), last(7, 1))
		mustHold(t, "the other", y, last(1, 1), last(5, 4), last(6, greatest-1))
	}
}

// P16.2: of a Table that holds nothing, which is a Table all the same.
func TestCopyOfNothing(t *testing.T) {
	for turn := range 2 {
		x := dedup.New()
		y := x.Copy()
		if turn == 1 {
			x, y = y, x
		}
		mustAnswer(t, x, 5, 1, api.OK)
		mustHold(t, "the other", y)
		mustAnswer(t, y, 5, 2, api.ErrGap)
		mustAnswer(t, y, 6, 1, api.OK)
		mustHold(t, "the one", x, last(5, 1))
		mustHold(t, "the other", y, last(6, 1))
	}
}

// P16.2: as it was when it was made, not earlier or later; Copies of Copies, too.
func TestCopiesBetween(t *testing.T) {
	x := dedup.New()
	copies := []*dedup.Table{x.Copy()}
	for id := range uint64(20) {
		mustTake(t, "one more", x, 5, id+1, api.OK)
		copies = append(copies, x.Copy().Copy())
	}
	mustHold(t, "a Copy", copies[0])
	for i, c := range copies[1:] {
		mustHold(t, "a Copy", c, last(5, uint64(i)+1))
		mustTake(t, "a Copy", c, 5, uint64(i)+2, api.OK)
		mustTake(t, "a Copy", c, 6, 1, api.OK)
	}
	mustHold(t, "what was copied", x, last(5, 20))
}

// P2: what All of the one tells is the one's, whatever is done to the other.
func TestAllOfACopy(t *testing.T) {
	x := dedup.New(last(5, 2))
	c := x.Copy()
	for y := range c.All() {
		mustTake(t, "what was copied", x, 5, 3, api.OK)
		if y != last(5, 2) {
			t.Fatal(y)
		}
	}
	mustHold(t, "the Copy", c, last(5, 2))
	mustHold(t, "what was copied", x, last(5, 3))
}
