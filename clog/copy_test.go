package clog_test

import (
	"testing"

	"factotum/api"
	"factotum/clog"
)

// P17.2: a Copy is a Log of its own, alike, of each base, each number of items, and behind each Compact.
func TestCopy(t *testing.T) {
	l, _ := some()
	for _, base := range append(bases(), mostGone+1, greatest) {
		for n := range len(l) + 1 {
			x, p := clog.New(base, small(), l[:n]...), begun(min(base, mostGone), small(), l[:n]...)
			for to := p.first; to <= p.version(); to++ {
				mustCompact(t, "Copy", x, to, true)
				c := x.Copy()
				if c == nil || c == x {
					t.Fatal("not a Log of its own")
				}
				mustHold(t, "a Copy", c, p.from(to))
				mustHold(t, "a Copy's Copy", c.Copy(), p.from(to))
				mustHold(t, "what was copied", x, p.from(to))
			}
		}
	}
}

// P17.2: whatever is added to the one leaves the other as it was, each way.
func TestAddToOneOfTwo(t *testing.T) {
	l, _ := some()
	for n := range len(l) + 1 {
		for to := range uint64(n + 1) {
			for turn := range 2 {
				x, p := clog.New(5, small(), l[:n]...), begun(5, small(), l[:n]...).from(5+to)
				mustCompact(t, "ahead", x, 5+to, true)
				y := x.Copy()
				if turn == 1 {
					x, y = y, x
				}
				x.Add(addList(1, 50), addList(2, 51))
				mustHold(t, "the other", y, p)
				y.Add(edit(3, 3, "other"))
				mustHold(t, "the one", x, p.with(addList(1, 50), addList(2, 51)))
				mustHold(t, "the other", y, p.with(edit(3, 3, "other")))
			}
		}
	}
}

// P17.2: whatever is compacted in the one leaves the other as it was, each way, also where both are.
func TestCompactOneOfTwo(t *testing.T) {
	l, _ := some()
	p := begun(5, small(), l...)
	for i := uint64(5); i <= 11; i++ {
		for j := uint64(5); j <= 11; j++ {
			for turn := range 2 {
				x := clog.New(5, small(), l...)
				y := x.Copy()
				if turn == 1 {
					x, y = y, x
				}
				mustCompact(t, "the one", x, i, true)
				mustHold(t, "the other", y, p)
				mustCompact(t, "the other", y, j, true)
				mustHold(t, "the one", x, p.from(i))
				x.Add(l[0])
				mustHold(t, "the other", y, p.from(j))
				mustHold(t, "the one", x, p.with(l[0]).from(i))
			}
		}
	}
}

// P17.2: as it was when it was made, not earlier or later.
func TestCopiesBetween(t *testing.T) {
	x, p := clog.New(mostGone, api.State{}), begun(mostGone, api.State{})
	copies, plains := []*clog.Log{x.Copy()}, []plain{p}
	for i := range uint64(12) {
		x.Add(addList(i+1, 20-i))
		p = p.with(addList(i+1, 20-i))
		copies, plains = append(copies, x.Copy()), append(plains, p)
		if i%3 == 2 {
			p = p.from(p.version() - 2)
			mustCompact(t, "between", x, p.base, true)
			copies, plains = append(copies, x.Copy().Copy()), append(plains, p)
		}
	}
	for i, c := range copies {
		mustHold(t, "between", c, plains[i])
		c.Add(addList(99, 99))
		mustCompact(t, "between", c, c.Version(), true)
	}
	mustHold(t, "what was copied", x, p)
}
