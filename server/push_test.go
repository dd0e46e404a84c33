package server_test

import (
	"fmt"
	"math"
	"slices"
	"testing"

	"factotum/api"
)

// acked hands a Push in and asks for an Ack of these, and for what the log has then.
func (b *both) acked(t *testing.T, m api.Msg, lasts []api.Last, log ...api.Item) {
	t.Helper()
	var want []api.Msg
	if lasts != nil {
		want = one(api.Msg{Kind: api.Ack, Boot: m.Boot, Lasts: lasts})
	}
	mustTell(t, "acked", b.s.Do(m), want)
	if got, is := b.s.Log().Items(0, math.MaxInt); !is || !slices.Equal(got, log) || b.s.Log().Version() != uint64(len(log)) {
		t.Fatalf("the log is %+v, not %+v", got, log)
	}
}

func last(ident, id uint64) []api.Last { return []api.Last{{Ident: ident, Id: id}} }

// P18.2: by hand: one, several, old, next and too high numbers, of one identity and of several.
func TestPushByHand(t *testing.T) {
	b := begun(t, 300)
	b.mustSay(t, push(1, 3, item(9, 1)), api.Fenced)
	b.mustSay(t, hello(1, 3), api.Welcome)
	b.acked(t, push(1, 3, item(9, 2)), nil)
	b.acked(t, push(1, 3, item(9, 1)), last(9, 1), item(9, 1))
	b.acked(t, push(1, 3, item(9, 1)), last(9, 1), item(9, 1))
	l := items(9, 1, 2)
	b.acked(t, push(1, 3, item(9, 2), item(9, 4), item(9, 3)), last(9, 2), l...)
	l = append(l, item(9, 3), item(5, 1))
	b.acked(t, push(1, 3, item(9, 2), item(9, 3), item(5, 1)), []api.Last{{Ident: 5, Id: 1}, {Ident: 9, Id: 3}}, l...)
	// What stands behind a gap isn't taken, but told, if it has a number.
	b.acked(t, push(1, 3, item(7, 2), item(5, 2), item(9, 4), item(8, 1)), []api.Last{{Ident: 5, Id: 1}, {Ident: 9, Id: 3}}, l...)
	b.acked(t, push(1, 3, item(7, 2), item(8, 1)), nil, l...)
	l = append(l, item(5, 2))
	b.acked(t, push(1, 3, item(9, 1), item(5, 2), item(5, 1), item(7, 3), item(7, 1)), []api.Last{{Ident: 5, Id: 2}, {Ident: 9, Id: 3}}, l...)
	l = append(l, item(7, 1), item(5, 3), item(7, 2), item(5, 4), item(7, 3), item(1, 1), item(greatest, 1), item(5, 5))
	b.acked(t, push(1, 3, l[5:]...), []api.Last{{Ident: 1, Id: 1}, {Ident: 5, Id: 5}, {Ident: 7, Id: 3}, {Ident: greatest, Id: 1}}, l...)
	b.mustSay(t, push(1, 4, item(9, 4)), api.Fenced)
	b.mustSay(t, push(1, 2, item(9, 4)), api.Fenced)
	b.mustSay(t, push(0, 3, item(9, 4)), api.Fenced)
	b.mustSay(t, push(2, 3, item(9, 4)), api.Fenced)
	b.acked(t, push(1, 3, item(9, 1)), last(9, 3), l...)
}

// P18.2: of another boot, of each kind: Fenced with the Line and Boot of the message; nothing is taken.
func TestPushOfAnotherBoot(t *testing.T) {
	b := begun(t, roomy)
	b.do(t, "ahead", hello(1, 5), hello(2, 9), hello(0, 1), push(1, 5, item(9, 1)))
	for _, line := range []uint64{0, 1, 2, 3, 255, 1<<32 + 1, greatest} {
		for _, boot := range []uint64{1, 4, 5, 6, 9, 10, 1<<32 + 5, greatest} {
			for _, l := range [][]api.Item{items(9, 1, 1), items(9, 2, 2), items(9, 3, 3), items(6, 1, 8)} {
				m := push(line, boot, l...)
				if b.s.Boot(line) != boot {
					b.do(t, "another", m)
					b.mustSay(t, m, api.Fenced)
				}
			}
		}
	}
}

// P18.2: each row of three numbers from 1 to 4 of one identity, or of two, behind each number that it had.
func TestPushOfEachRow(t *testing.T) {
	for had := range uint64(3) {
		for row := range 512 {
			b := begun(t, 60)
			b.do(t, "ahead", hello(1, 3))
			if had > 0 {
				b.do(t, "ahead", push(1, 3, items(9, 1, had)...))
			}
			var l []api.Item
			for range 3 {
				l = append(l, item(9-uint64(row/4%2), 1+uint64(row%4)))
				row /= 8
			}
			m := push(1, 3, l...)
			b.do(t, fmt.Sprintf("had %d", had), m, m)
		}
	}
}

// P18.2: eight items at once, in each order of two and three identities; the whole is told twice over.
func TestPushOfEight(t *testing.T) {
	r := random(2)
	for range 100 {
		b := begun(t, 300)
		b.do(t, "ahead", hello(greatest, greatest))
		next := map[uint64]uint64{}
		for range 3 {
			var l []api.Item
			for range 8 {
				ident := oneOf(r, uint64(1), 2, greatest)
				next[ident]++
				l = append(l, item(ident, next[ident]))
			}
			m := push(greatest, greatest, l...)
			b.do(t, "eight", m, m)
		}
		b.open(t)
	}
}

// P18.2: a Push told twice over, at once, later, by another line and behind Open and Compact: nothing more is committed.
func TestPushTwice(t *testing.T) {
	b := begun(t, roomy)
	b.do(t, "ahead", hello(1, 3), hello(2, 4))
	m := push(1, 3, items(9, 1, 5)...)
	other := push(2, 4, items(9, 1, 5)...)
	b.do(t, "at once", m, m, other)
	b.do(t, "later", push(1, 3, items(9, 6, 7)...), m, other)
	b.open(t)
	b.do(t, "opened", m, other)
	b.compact(t, 0)
	b.do(t, "compacted", m, other)
	b.open(t)
	b.do(t, "compacted and opened", m, other, hello(1, 8))
	m.Boot = 8
	b.do(t, "of another boot", m, other, push(1, 8, items(9, 7, 8)...))
}

// P18.2: an item that has an error of its own is committed, too, and counts.
func TestPushOfItemsWithErrors(t *testing.T) {
	b := begun(t, roomy)
	b.do(t, "ahead", hello(1, 3))
	add := func(ident, id uint64, m api.Mut) api.Item { return api.Item{Ident: ident, Id: id, Mut: m} }
	edit := api.Mut{Kind: api.MutEdit, Id: 8, Text: "nobody"}
	drop := api.Mut{Kind: api.MutDrop, Id: 5}
	list := api.Mut{Kind: api.MutList, Id: 5, Text: "five"}
	b.do(t, "errors", push(1, 3, add(9, 1, edit), add(9, 2, list), add(9, 3, list), add(4, 1, edit), add(9, 4, drop), add(9, 5, drop), add(9, 6, list)))
	if s, is := b.s.Log().At(7); !is || len(s.Lists) != 1 {
		t.Fatal(s)
	}
	b.open(t)
	b.do(t, "behind", pull(1, 3, 0), push(1, 3, add(9, 7, edit)))
}

// P18.2: mutations are kept as they were, of each kind.
func TestPushOfEachMutation(t *testing.T) {
	muts := []api.Mut{
		{Kind: api.MutList, Id: 1, Text: "food"}, {Kind: api.MutMake, Id: 2, List: 1, Text: "eat", F: -0.5}, {Kind: api.MutEdit, Id: 2, Text: "cook"},
		{Kind: api.MutDone, Id: 2, Flag: true}, {Kind: api.MutList, Id: greatest, Text: "~ "}, {Kind: api.MutMove, Id: 2, List: greatest, F: math.Inf(1)},
		{Kind: api.MutRank, Id: 2, F: 1e-300}, {Kind: api.MutEst, Id: 2, F: 0.1}, {Kind: api.MutEst, Id: 2, F: math.NaN()}, {Kind: api.MutTag, Id: 2, Text: "a-1"},
		{Kind: api.MutUntag, Id: 2, Text: "a-1"}, {Kind: api.MutSpread, List: 1}, {Kind: api.MutClear, List: 1}, {Kind: api.MutDelete, Id: 2}, {Kind: api.MutDrop, Id: 1},
	}
	b := begun(t, roomy)
	b.do(t, "ahead", hello(1, 3))
	for i, m := range muts {
		b.do(t, "each", push(1, 3, api.Item{Ident: 9, Id: uint64(i) + 1, Mut: m}))
		b.open(t)
	}
	b.do(t, "told", pull(1, 3, 0), pull(1, 3, 8))
	for keep := len(muts); keep >= 0; keep-- {
		b.compact(t, uint64(keep))
		b.open(t)
	}
}

// P18.2: great numbers: the last one that there is, and none behind it.
func TestPushOfGreatNumbers(t *testing.T) {
	b := laid(t, 300, plain{lasts: map[uint64]uint64{9: greatest - 1, 8: greatest, 7: 1<<32 - 1}, boots: map[uint64]uint64{1: greatest}})
	b.do(t, "great", push(1, greatest, item(8, greatest), item(8, 1), item(9, greatest-1), item(9, greatest), item(9, greatest), item(7, 1<<32), item(7, 1<<32+1)))
	b.do(t, "great", push(1, greatest, item(6, greatest), item(9, 1)), push(1, greatest, item(6, 1<<32+1)), push(1, greatest, item(9, greatest)))
	b.open(t)
}

// Example 1 of the chapter.
func TestExample(t *testing.T) {
	b := begun(t, 100)
	b.mustSay(t, hello(1, 3), api.Welcome)
	b.mustSay(t, push(1, 2, item(9, 1)), api.Fenced)
}
