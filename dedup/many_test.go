package dedup_test

import (
	"slices"
	"testing"

	"factotum/api"
	"factotum/dedup"
)

// few are the identities of what is made up.
func few() []uint64 { return []uint64{1, 2, 3, 1 << 32, 1<<32 + 1, 1 << 63, greatest} }

// anyLasts are made up: few identities, small numbers, some of each 0.
func anyLasts(r func(n int) int) []api.Last {
	var l []api.Last
	for range r(8) {
		x := last(oneOf(r, few()), uint64(r(6)))
		if r(10) == 0 {
			x.Ident = 0
		}
		l = append(l, x)
	}
	return l
}

// begun is what the chapter's words tell of New: of each identity the greatest Id, by a plain search for it.
func begun(l []api.Last) []api.Last {
	var got []api.Last
	for _, ident := range few() {
		most := uint64(0)
		for _, x := range l {
			if x.Ident == ident {
				most = max(most, x.Id)
			}
		}
		if most > 0 {
			got = append(got, last(ident, most))
		}
	}
	return got
}

// P16.1: New of many made-up lists, held against the chapter's words.
func TestManyNews(t *testing.T) {
	r := random(1)
	for range 2000 {
		l := anyLasts(r)
		mustHold(t, "made up", dedup.New(l...), begun(l)...)
	}
}

// P16.3: whatever is tried, what is taken of each identity is Last + 1, Last + 2, .., each once.
func TestOnceWithoutGaps(t *testing.T) {
	r := random(2)
	found := map[api.Errno]int{}
	for range 300 {
		given := anyLasts(r)
		x := dedup.New(given...)
		first := begun(given)
		var taken []api.Last
		for range 120 {
			ident := oneOf(r, few()[:1+r(7)])
			id := uint64(r(12))
			if r(2) == 0 {
				id = x.Last(ident) + uint64(r(3))
			}
			if r(30) == 0 {
				ident = 0
			}
			n := lastOf(first, ident) + uint64(len(of(taken, ident)))
			want := words(n, ident, id)
			mustAsk(t, "made up", x, ident, id, want)
			mustTake(t, "made up", x, ident, id, want)
			if want == api.OK {
				taken = append(taken, last(ident, id))
			}
			found[want]++
		}
		want := first
		for _, ident := range few() {
			l, n := of(taken, ident), lastOf(first, ident)
			for i, id := range l {
				if id != n+uint64(i)+1 {
					t.Fatalf("of %d, whose last number was %d, were taken %v", ident, n, l)
				}
			}
			if len(l) > 0 {
				want = with(want, ident, l[len(l)-1])
			}
		}
		mustHold(t, "made up", x, want...)
	}
	for _, e := range []api.Errno{api.OK, api.ErrRange, api.ErrGap, api.ErrOld} {
		if found[e] < 300 {
			t.Errorf("error %d came %d times", e, found[e])
		}
	}
}

// of are the numbers that were taken of an identity, in their order.
func of(taken []api.Last, ident uint64) []uint64 {
	var l []uint64
	for _, x := range taken {
		if x.Ident == ident {
			l = append(l, x.Id)
		}
	}
	return l
}

// P16.3: each number tried many times, in any order: it is taken once.
func TestEachOnce(t *testing.T) {
	r := random(3)
	for range 50 {
		x := dedup.New(last(5, 10))
		times := [41]int{}
		for range 3000 {
			if id := 1 + r(40); x.Take(5, uint64(id)) == api.OK {
				times[id]++
			}
		}
		n := int(x.Last(5))
		for id, got := range times {
			want := 0
			if id > 10 && id <= n {
				want = 1
			}
			if got != want {
				t.Fatalf("%d was taken %d times, the last one is %d", id, got, n)
			}
		}
		if n < 20 {
			t.Fatalf("no more than %d were taken", n)
		}
	}
}

// P16.1 to P16.3: Tables and their Copies to which things are done in any order, each held against a plain list.
func TestManyTables(t *testing.T) {
	r := random(4)
	for range 200 {
		given := anyLasts(r)
		tables, lists := []*dedup.Table{dedup.New(given...)}, [][]api.Last{begun(given)}
		for range 40 {
			i := r(len(tables))
			switch x := tables[i]; r(4) {
			case 0:
				tables, lists = append(tables, x.Copy()), append(lists, slices.Clone(lists[i]))
			case 1:
				tables, lists = append(tables, dedup.New(all(x)...)), append(lists, slices.Clone(lists[i]))
			default:
				ident := oneOf(r, few())
				id := lastOf(lists[i], ident) + uint64(r(4)) - 1
				e := words(lastOf(lists[i], ident), ident, id)
				mustTake(t, "any order", x, ident, id, e)
				if e == api.OK {
					lists[i] = with(lists[i], ident, id)
				}
			}
		}
		for i, x := range tables {
			mustHold(t, "any order", x, lists[i]...)
		}
	}
}

// P1: no call panics, whatever is handed in, in whatever order.
func TestAnyArguments(t *testing.T) {
	r := random(5)
	n := append(numbers(3), numbers(greatest-5)...)
	for range 300 {
		var l []api.Last
		for range r(20) {
			l = append(l, last(oneOf(r, n), oneOf(r, n)))
		}
		for _, x := range append(nobodys(), dedup.New(l...), dedup.New(l...).Copy()) {
			for range 10 {
				ident, id := oneOf(r, n), oneOf(r, n)
				x.Ask(ident, id)
				x.Take(ident, id)
				x.Last(ident)
				x.Copy()
				for range x.All() {
					if r(3) == 0 {
						break
					}
				}
			}
		}
	}
}

// P3: the same arguments, the same answers, however often.
func TestTheSameAnswers(t *testing.T) {
	r := random(6)
	for range 100 {
		l := anyLasts(r)
		want := all(dedup.New(l...))
		for range 5 {
			x := dedup.New(slices.Clone(l)...)
			mustHold(t, "again", x, want...)
			mustHold(t, "again, a Copy", x.Copy(), want...)
		}
	}
}
