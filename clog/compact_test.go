package clog_test

import (
	"fmt"
	"testing"

	"factotum/api"
	"factotum/clog"
)

// P17.2: Compact to each number from Base to Version, of each base, and on from there.
func TestCompact(t *testing.T) {
	l, _ := some()
	for _, base := range bases() {
		for n := range len(l) + 1 {
			for to := base; to <= base+uint64(n); to++ {
				what := fmt.Sprintf("Compact(%d) of %d to %d", to, base, base+uint64(n))
				x := clog.New(base, small(), l[:n]...)
				p := begun(base, small(), l[:n]...).from(to)
				mustCompact(t, what, x, to, true)
				mustEnd(t, what, x, to, base+uint64(n))
				mustHold(t, what, x, p)
				x.Add(l[n:]...)
				mustHold(t, what+", Add", x, p.with(l[n:]...))
			}
		}
	}
}

// P17.2: what is told behind a Compact, by hand.
func TestCompactByHand(t *testing.T) {
	l, states := some()
	x := clog.New(5, small(), l...)
	mustCompact(t, "by hand", x, 8, true)
	mustEnd(t, "by hand", x, 8, 11)
	for v := uint64(8); v <= 11; v++ {
		mustAt(t, "by hand", x, v, told(states[v-5]), true)
		mustItems(t, "by hand", x, v, 2, l[v-5:min(v-3, 6)], true)
		mustItems(t, "by hand", x, v, 9, l[v-5:], true)
	}
	for _, v := range []uint64{0, 3, 5, 6, 7, 12} {
		mustTellNothing(t, "by hand", x, v)
	}
	mustCompact(t, "to the end", x, 11, true)
	mustEnd(t, "to the end", x, 11, 11)
	mustAt(t, "to the end", x, 11, told(states[6]), true)
	mustItems(t, "to the end", x, 11, 9, nil, true)
	mustTellNothing(t, "to the end", x, 10)
}

// P17.2: Compact to a number outside is false, and changes nothing, ahead of a Compact and behind it.
func TestCompactOutside(t *testing.T) {
	l, _ := some()
	for _, base := range bases() {
		x, p := clog.New(base, small(), l...), begun(base, small(), l...)
		for _, to := range []uint64{base, base + 2, base + 6} {
			mustCompact(t, "within", x, to, true)
			p = p.from(to)
			for _, v := range append(p.numbers(), bases()...) {
				if !p.tells(v) {
					mustCompact(t, "outside", x, v, false)
					mustEnd(t, "outside", x, to, base+6)
				}
			}
			mustHold(t, "outside", x, p)
		}
	}
}

// P17.2: Compact to two numbers, one behind the other: the second holds, unless it is less.
func TestCompactTwice(t *testing.T) {
	l, _ := some()
	for _, base := range []uint64{0, 5, mostGone} {
		for i := base; i <= base+6; i++ {
			for j := base; j <= base+6; j++ {
				what := fmt.Sprintf("of %d: Compact(%d), Compact(%d)", base, i, j)
				x, p := clog.New(base, small(), l...), begun(base, small(), l...).from(max(i, j))
				mustCompact(t, what, x, i, true)
				mustCompact(t, what, x, j, j >= i)
				mustHold(t, what, x, p)
				mustCompact(t, what, x, p.base, true)
				mustCompact(t, what, x, base, p.base == base)
				mustHold(t, what, x, p)
			}
		}
	}
}

// P17.2: Add and Compact by turns, up to far above what New takes as a base.
func TestCompactBehindEachAdd(t *testing.T) {
	l, _ := some()
	for _, base := range []uint64{0, mostGone - 3, mostGone, greatest} {
		x, p := clog.New(base, api.State{}), begun(min(base, mostGone), api.State{})
		for i := range 40 {
			more := append(lists(i%4), l[i%len(l)])
			x.Add(more...)
			p = p.with(more...)
			mustHold(t, "Add", x, p)
			to := p.version() - uint64(i%3)
			if to >= p.base {
				p = p.from(to)
			}
			mustCompact(t, "behind an Add", x, to, to == p.base)
			mustHold(t, "Compact", x, p)
		}
	}
}
