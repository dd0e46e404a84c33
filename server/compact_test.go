package server_test

import (
	"math"
	"slices"
	"testing"

	"factotum/api"
	"factotum/clog"
	"factotum/dedup"
	"factotum/server"
	"factotum/store"
)

// P18.3: by hand: with keep of 0, of some, of Version, above it and the greatest number there is.
func TestCompactByHand(t *testing.T) {
	for _, x := range []struct{ first, keep, base uint64 }{
		{6, 0, 6}, {6, 1, 5}, {6, 2, 4}, {6, 5, 1}, {6, 6, 0}, {6, 7, 0}, {6, 1 << 32, 0}, {6, 1<<32 + 2, 0}, {6, 1 << 63, 0}, {6, greatest - 1, 0}, {6, greatest, 0},
		{2, 2, 4}, {2, 3, 4}, {2, 4, 4}, {2, 6, 4}, {2, 7, 4}, {2, greatest, 4}, {2, 1, 5}, {2, 0, 6}, {0, 0, 6}, {0, 3, 6},
	} {
		b := grown(t, 6, 0)
		for _, keep := range []uint64{x.first, x.keep} {
			mustBe(t, "Compact", b.s.Compact(keep), api.OK)
		}
		if log := b.s.Log(); log.Base() != x.base || log.Version() != 6 {
			t.Fatal(x, log.Base(), log.Version())
		}
		s, e := store.Open(b.d)
		mustBe(t, "store.Open", e, api.OK)
		n, first := uint64(0), ""
		for k := range s.Keys("e") {
			if n == 0 {
				first = k
			}
			n++
		}
		if n != 6-x.base || n > 0 && first != key("e", x.base) {
			t.Fatalf("%v: %d items, from %q on", x, n, first)
		}
		val, is := s.Get("b")
		var lists []api.List
		for id := range x.base {
			lists = append(lists, api.List{Id: id + 1, Name: "l"})
		}
		if is != (x.base > 0) || is && string(val) != string(based(x.base, api.State{Lists: lists})) {
			t.Fatalf("%v: %q, %t", x, val, is)
		}
	}
}

// P18.3: each keep behind each other one: what the log tells is told still, and what is kept is what is told.
func TestCompact(t *testing.T) {
	for i := range uint64(8) {
		for j := range uint64(8) {
			b := grown(t, 6, 0)
			b.compact(t, i)
			b.open(t)
			b.compact(t, j)
			b.do(t, "behind", pull(1, 3, 0), pull(1, 3, 3), pull(1, 3, b.p.base), push(1, 3, item(9, 3)), push(1, 3, item(9, 7)))
			b.open(t)
			b.compact(t, j)
			b.compact(t, greatest)
			b.do(t, "behind", push(1, 3, item(9, 8), item(5, 1)), hello(1, 2), hello(1, 4))
			b.open(t)
		}
	}
}

// P18.3: of a new server, and of one with a Base behind which there is nothing, there is nothing to do.
func TestCompactOfNothing(t *testing.T) {
	for _, b := range []*both{begun(t, 100), laid(t, 100, plain{first: 5, base: 5, based: true, state: small()}), laid(t, 100, plain{based: true})} {
		for _, keep := range []uint64{0, 1, 4, 5, 6, greatest} {
			b.compact(t, keep)
		}
		b.open(t)
	}
}

// P18.3: many items, some with an error, all gone at once.
func TestCompactOfMany(t *testing.T) {
	b := grown(t, 3, 0)
	for id := uint64(4); id < 300; id += 8 {
		b.do(t, "many", push(1, 3, items(9, id, id+7)...))
	}
	b.compact(t, 200)
	b.do(t, "many", pull(1, 3, 0), pull(1, 3, 150))
	b.compact(t, 0)
	b.open(t)
	b.do(t, "many", pull(1, 3, 299), push(1, 3, item(9, b.p.lasts[9]+1)))
}

// P18.3: what is told of the log behind a Compact is what was told of it ahead, where it is told still.
func TestCompactIsUnseen(t *testing.T) {
	for base := range uint64(13) {
		whole, b := grown(t, 12, 0).s.Log(), grown(t, 12, base)
		log := b.s.Log()
		for v := base; v <= 12; v++ {
			was, _ := whole.At(v)
			is, ok := log.At(v)
			l, _ := whole.Items(v, math.MaxInt)
			m, fine := log.Items(v, math.MaxInt)
			if !ok || !fine || string(based(0, was)) != string(based(0, is)) || !slices.Equal(l, m) {
				t.Fatalf("At(%d) behind %d", v, base)
			}
		}
		for v := range base {
			if _, ok := log.At(v); ok {
				t.Fatalf("At(%d) behind %d", v, base)
			}
		}
	}
}

// P18.3: Log and Table are copies: what is done to one isn't seen by the Server, nor by another one, nor the other way round.
func TestCopies(t *testing.T) {
	b := grown(t, 5, 1)
	log, table := b.s.Log(), b.s.Table()
	other, second := b.s.Log(), b.s.Table()
	if log == other || table == second {
		t.Fatal("the same one twice")
	}
	log.Add(item(9, 6), item(9, 7))
	log.Compact(6)
	mustBe(t, "Take", table.Take(9, 6), api.OK)
	mustBe(t, "Take", table.Take(8, 1), api.OK)
	mustSee(t, "the Server", b.s, b.p)
	mustHave(t, "another", other, second, 1, 5, 5)
	b.do(t, "goes on", push(1, 3, item(9, 6), item(7, 1)), pull(1, 3, 0), push(1, 3, item(8, 2), item(9, 1)))
	b.compact(t, 0)
	mustHave(t, "the one", log, table, 6, 7, 6)
	mustHave(t, "the other", other, second, 1, 5, 5)
	if table.Last(7) != 0 || second.Last(8) != 0 || second.Last(7) != 0 {
		t.Fatal("seen in a Table")
	}
	mustKeep(t, "copies", b.d, b.p)
	b.open(t)
}

// mustHave asks for Base and Version of a log, and the last number of identity 9.
func mustHave(t *testing.T, what string, log *clog.Log, table *dedup.Table, base, version, last uint64) {
	t.Helper()
	if log.Base() != base || log.Version() != version || table.Last(9) != last {
		t.Fatalf("%s: from %d to %d, %d", what, log.Base(), log.Version(), table.Last(9))
	}
}

// P18.3: the Boot of lines that have one, and of those that have none.
func TestBoot(t *testing.T) {
	boots := map[uint64]uint64{0: 7, 1: 1, 256: 300, 1 << 40: greatest, greatest: 1 << 63}
	b := laid(t, 100, plain{boots: boots})
	for range 2 {
		for _, line := range lines() {
			if got := b.s.Boot(line); got != boots[line] {
				t.Fatal(line, got)
			}
		}
		mustSee(t, "asked for", b.s, b.p)
		b.open(t)
	}
}

// P18.3, P1: a Server that nobody made tells nothing, ErrDisk, nil and 0, whatever it is asked for, and however often.
func TestAServerThatNobodyMade(t *testing.T) {
	var zero server.Server
	for _, s := range []*server.Server{nil, {}, new(server.Server), &zero} {
		for range 2 {
			for _, m := range []api.Msg{{}, hello(1, 3), hello(0, 0), push(1, 3, item(9, 1)), push(1, 0), pull(1, 3, 0), pull(0, 1, greatest), {Kind: api.Ack, Boot: 3}} {
				if got := s.Do(m); got != nil {
					t.Fatal(got)
				}
			}
			for _, keep := range []uint64{0, 1, greatest} {
				mustBe(t, "Compact", s.Compact(keep), api.ErrDisk)
			}
			if s.Log() != nil || s.Table() != nil {
				t.Fatal(s.Log(), s.Table())
			}
			for _, line := range lines() {
				if s.Boot(line) != 0 {
					t.Fatal(s.Boot(line))
				}
			}
		}
	}
}
