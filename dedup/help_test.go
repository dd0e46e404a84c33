package dedup_test

import (
	"fmt"
	"math"
	"slices"
	"testing"

	"factotum/api"
	"factotum/dedup"
)

const greatest = math.MaxUint64

// last is short for a Last.
func last(ident, id uint64) api.Last { return api.Last{Ident: ident, Id: id} }

// all is what All tells.
func all(x *dedup.Table) []api.Last {
	var l []api.Last
	for y := range x.All() {
		l = append(l, y)
	}
	return l
}

// numbers are 0, what lies around each power of two and around n, and the greatest: some are n in fewer bits.
func numbers(n uint64) []uint64 {
	l := []uint64{n - 2, n - 1, n, n + 1, n + 2, n + 3, -n, 2 * n, 2*n + 1, greatest - 1, greatest}
	for _, bit := range []uint{0, 1, 7, 8, 15, 16, 31, 32, 53, 62, 63} {
		p := uint64(1) << bit
		l = append(l, p-1, p, p+1, n+p, n+p+1, n-p, n-p+1)
	}
	slices.Sort(l)
	return slices.Compact(append([]uint64{0}, l...))
}

// words are the error that the chapter's words tell of a last number.
func words(n, ident, id uint64) api.Errno {
	switch {
	case ident == 0, id == 0:
		return api.ErrRange
	case id <= n:
		return api.ErrOld
	case id == n+1:
		return api.OK
	}
	return api.ErrGap
}

// lastOf is the Id that the plain list l has of an identity.
func lastOf(l []api.Last, ident uint64) uint64 {
	for _, x := range l {
		if x.Ident == ident {
			return x.Id
		}
	}
	return 0
}

// mustHold asks that x holds what the plain list want tells, rising by Ident, and nothing else: by All, by Last and by Ask, which changes nothing.
func mustHold(t *testing.T, what string, x *dedup.Table, want ...api.Last) {
	t.Helper()
	for range 2 {
		if l := all(x); !slices.Equal(l, want) {
			t.Fatalf("%s: All tells %v, not %v", what, l, want)
		}
		for _, ident := range idents(want) {
			n := lastOf(want, ident)
			if got := x.Last(ident); got != n {
				t.Fatalf("%s: Last(%d) is %d, not %d", what, ident, got, n)
			}
			for _, id := range []uint64{0, 1, 2, n - 1, n, n + 1, n + 2, greatest} {
				mustAsk(t, what, x, ident, id, words(n, ident, id))
			}
		}
	}
}

// idents are those of l, those beside them, and some that l may not have; 0, too.
func idents(l []api.Last) []uint64 {
	got := []uint64{0, 1, 2, 1 << 32, 1 << 63, greatest}
	for _, x := range l {
		got = append(got, x.Ident, x.Ident-1, x.Ident+1, x.Ident+1<<32, x.Ident^1<<63)
	}
	slices.Sort(got)
	return slices.Compact(got)
}

func mustAsk(t *testing.T, what string, x *dedup.Table, ident, id uint64, want api.Errno) {
	t.Helper()
	if e := x.Ask(ident, id); e != want {
		t.Fatalf("%s: Ask(%d, %d) is %d, not %d", what, ident, id, e, want)
	}
}

func mustTake(t *testing.T, what string, x *dedup.Table, ident, id uint64, want api.Errno) {
	t.Helper()
	if e := x.Take(ident, id); e != want {
		t.Fatalf("%s: Take(%d, %d) is %d, not %d", what, ident, id, e, want)
	}
}

// mustAnswer asks that Ask and Take answer so, and that only a Take that is OK changes something: of this identity.
func mustAnswer(t *testing.T, x *dedup.Table, ident, id uint64, want api.Errno) {
	t.Helper()
	was := all(x)
	what := fmt.Sprintf("%v, (%d, %d)", was, ident, id)
	for range 2 {
		mustAsk(t, what, x, ident, id, want)
		mustHold(t, what+" asked", x, was...)
	}
	mustTake(t, what, x, ident, id, want)
	if want == api.OK {
		was = with(was, ident, id)
	}
	mustHold(t, what+" taken", x, was...)
}

// with is l, rising by Ident, with the last number of one identity put.
func with(l []api.Last, ident, id uint64) []api.Last {
	for i, x := range l {
		if x.Ident == ident {
			l = slices.Clone(l)
			l[i].Id = id
			return l
		}
		if x.Ident > ident {
			return slices.Insert(slices.Clone(l), i, last(ident, id))
		}
	}
	return append(slices.Clone(l), last(ident, id))
}

// orders are all orders of l.
func orders(l []api.Last) [][]api.Last {
	if len(l) < 2 {
		return [][]api.Last{slices.Clone(l)}
	}
	var got [][]api.Last
	for i := range l {
		for _, o := range orders(slices.Delete(slices.Clone(l), i, i+1)) {
			got = append(got, append(o, l[i]))
		}
	}
	return got
}

// random tells numbers below n, the same ones each time.
func random(seed uint64) func(n int) int {
	return func(n int) int {
		seed = seed*6364136223846793005 + 1442695040888963407
		return int(seed>>33) % n
	}
}

// oneOf is one of l.
func oneOf[T any](r func(n int) int, l []T) T { return l[r(len(l))] }
