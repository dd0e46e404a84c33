package server_test

import (
	"slices"
	"testing"

	"factotum/api"
	"factotum/task"
	"factotum/wire"
)

// news is a News of these items, from there on.
func news(boot, from uint64, l ...api.Item) []api.Msg {
	return one(api.Msg{Kind: api.News, Boot: boot, From: from, To: from + uint64(len(l)), Items: l})
}

// grown is a server with these items, of identity 9, for line 1 and boot 3, and a Base.
func grown(t *testing.T, n, base uint64) *both {
	t.Helper()
	b := begun(t, roomy)
	b.do(t, "grown", hello(1, 3))
	for id := uint64(1); id <= n; id++ {
		b.do(t, "grown", push(1, 3, item(9, id)))
	}
	b.compact(t, n-base)
	return b
}

// P18.2: by hand: from Base, amid, from Version, and from outside.
func TestPullByHand(t *testing.T) {
	b := grown(t, 12, 3)
	l := items(9, 1, 12)
	for _, x := range []struct{ from, to uint64 }{{3, 11}, {4, 12}, {5, 12}, {6, 12}, {11, 12}, {12, 12}} {
		mustTell(t, "by hand", b.s.Do(pull(1, 3, x.from)), news(3, x.from, l[x.from:x.to]...))
	}
	var s api.State
	for id := uint64(1); id <= 12; id++ {
		s.Lists = append(s.Lists, api.List{Id: id, Name: "l"})
	}
	for _, from := range []uint64{0, 1, 2, 13, 14, 1 << 32, 1<<32 + 5, 1 << 63, greatest} {
		mustTell(t, "by hand", b.s.Do(pull(1, 3, from)), one(api.Msg{Kind: api.Snap, Boot: 3, To: 12, Lasts: last(9, 12), State: s}))
	}
	for _, boot := range []uint64{1, 2, 4, greatest} {
		for _, from := range []uint64{0, 3, 5, 12, 13} {
			b.mustSay(t, pull(1, boot, from), api.Fenced)
			b.mustSay(t, pull(2, 3, from), api.Fenced)
		}
	}
}

// P18.2: each number of items, each Base, each From: nothing is committed, and nothing changes.
func TestPull(t *testing.T) {
	for _, n := range []uint64{0, 1, 2, 7, 8, 9, 10, 17} {
		for _, base := range []uint64{0, 1, 2, n / 2, n - min(n, 1), n} {
			if base > n {
				continue
			}
			b := grown(t, n, base)
			for from := range n + 3 {
				b.do(t, "pull", pull(1, 3, from), pull(1, 2, from), pull(2, 3, from))
			}
			b.open(t)
			b.do(t, "opened", pull(1, 3, base), pull(1, 3, n), pull(1, 3, greatest))
		}
	}
}

// P18.2: of a new server: a News of nothing from 0 on, a Snap of nothing from elsewhere.
func TestPullOfANewServer(t *testing.T) {
	b := begun(t, 100)
	b.mustSay(t, pull(1, 3, 0), api.Fenced)
	b.mustSay(t, hello(1, 3), api.Welcome)
	mustTell(t, "new", b.s.Do(pull(1, 3, 0)), news(3, 0))
	mustTell(t, "new", b.s.Do(pull(1, 3, 1)), one(api.Msg{Kind: api.Snap, Boot: 3}))
	if m := b.s.Do(pull(1, 3, 0))[0]; len(m.Items) != 0 || wire.Check(m) != api.OK {
		t.Fatal(m)
	}
}

// P18.2: pulled over and over, eight at most each time, all is told, wherever the Base is.
func TestPullAll(t *testing.T) {
	for _, base := range []uint64{0, 5, 29} {
		b := grown(t, 30, base)
		var got []api.Item
		for at := base; at < 30; {
			m := b.s.Do(pull(1, 3, at))[0]
			if m.Kind != api.News || len(m.Items) != int(min(30-at, 8)) || m.From != at {
				t.Fatal(m)
			}
			got, at = append(got, m.Items...), m.To
		}
		if !slices.Equal(got, items(9, base+1, 30)) {
			t.Fatal(got)
		}
	}
}

// P18.2: a Snap has the whole dedup table, by Ident, also those whose items are gone, and the state at Version.
func TestSnap(t *testing.T) {
	b := laid(t, 300, rich())
	m := b.s.Do(pull(1, 3, 299))
	if len(m) != 1 || m[0].Kind != api.Snap || m[0].To != 305 || len(m[0].Lasts) != 6 || m[0].Lasts[5] != (api.Last{Ident: greatest, Id: greatest}) {
		t.Fatal(m)
	}
	if x, is := task.Find(m[0].State, 3); !is || x.Title != "cook" || len(m[0].State.Lists) != 4 {
		t.Fatal(m)
	}
	b.do(t, "snap", pull(1, 3, 0), pull(1, 3, 299), pull(1, 3, 306), push(1, 3, item(300, 1)), pull(1, 3, 0))
}

// P18.2: as many identities as a message may tell, and more: all are told.
func TestSnapOfMany(t *testing.T) {
	for _, n := range []uint64{1999, 2000, 2001, 3000} {
		p := plain{lasts: map[uint64]uint64{}, boots: map[uint64]uint64{1: 3}}
		for ident := range n {
			p.lasts[ident+1] = 1 + ident%100
		}
		d := written(t, 4096, p.puts()...)
		s := mustOpen(t, "many", d, p)
		_, _, want := p.do(pull(1, 3, 1))
		got := s.Do(pull(1, 3, 1))
		if may := wire.Check(got[0]) == api.OK; len(got[0].Lasts) != int(n) || may != (n <= 2000) {
			t.Fatal(len(got[0].Lasts), may)
		}
		mustTell(t, "many", got, want)
	}
}

// P2: what was told stays as it is, whatever is done later; and what is done to it is seen nowhere.
func TestWhatWasToldStays(t *testing.T) {
	b := grown(t, 10, 0)
	first, second := b.s.Do(pull(1, 3, 2)), b.s.Do(pull(1, 3, 2))
	ack, snap, other := b.s.Do(push(1, 3, item(9, 1)))[0], b.s.Do(pull(1, 3, 99)), b.s.Do(pull(1, 3, 99))
	state := other[0].State
	b.do(t, "later", push(1, 3, items(9, 11, 18)...))
	b.compact(t, 0)
	spoil(second)
	spoil(snap)
	if !slices.Equal(first[0].Items, items(9, 3, 10)) || !slices.Equal(ack.Lasts, last(9, 10)) || !slices.Equal(other[0].Lasts, last(9, 10)) || len(state.Lists) != 10 || state.Lists[9].Id != 10 {
		t.Fatal(first, ack, other)
	}
	b.do(t, "later", pull(1, 3, 0), pull(1, 3, 18), push(1, 3, item(9, 1)))
}
