package server_test

import (
	"testing"

	"factotum/api"
	"factotum/wire"
)

// mustSay hands a message in and asks for one of this kind that has its Line and Boot, and nothing else.
func (b *both) mustSay(t *testing.T, m api.Msg, kind int) {
	t.Helper()
	mustTell(t, "said", b.s.Do(m), one(api.Msg{Kind: kind, Line: m.Line, Boot: m.Boot}))
}

// P18.2: by hand: a Boot below, equal to and above the line's, of a line that has one, and of one that has none.
func TestHelloByHand(t *testing.T) {
	b := begun(t, 100)
	for _, x := range []struct {
		line, boot uint64
		kind       int
		then       uint64
	}{
		{7, 5, api.Welcome, 5}, {7, 5, api.Welcome, 5}, {7, 4, api.Fenced, 5}, {7, 1, api.Fenced, 5}, {7, 6, api.Welcome, 6}, {7, 5, api.Fenced, 6},
		{8, 1, api.Welcome, 1}, {7, 6, api.Welcome, 6}, {8, 1, api.Welcome, 1}, {8, 2, api.Welcome, 2}, {0, 3, api.Welcome, 3}, {0, 2, api.Fenced, 3},
		{7, 1 << 50, api.Welcome, 1 << 50}, {7, 1<<50 - 1, api.Fenced, 1 << 50}, {7, greatest, api.Welcome, greatest}, {7, 1, api.Fenced, greatest},
		{7, greatest, api.Welcome, greatest}, {greatest, greatest, api.Welcome, greatest}, {greatest, 1, api.Fenced, greatest},
	} {
		b.mustSay(t, hello(x.line, x.boot), x.kind)
		if b.s.Boot(x.line) != x.then {
			t.Fatal(x, b.s.Boot(x.line))
		}
	}
	for line, boot := range map[uint64]uint64{7: greatest, 8: 2, 0: 3, greatest: greatest, 9: 0, 263: 0} {
		if b.s.Boot(line) != boot {
			t.Fatal(line, b.s.Boot(line))
		}
	}
}

// P18.2: each Boot to each, of several lines: what is told, what is committed, and that it is there again.
func TestHello(t *testing.T) {
	boots := []uint64{1, 2, 3, 127, 128, 255, 256, 1 << 31, 1 << 32, 1<<32 + 1, 1 << 40, 1<<40 + 1, 1 << 63, greatest - 1, greatest}
	for _, line := range []uint64{0, 1, 65536, greatest} {
		for _, first := range boots {
			b := begun(t, roomy)
			b.do(t, "another line", hello(2, 200))
			b.do(t, "the first", hello(line, first))
			for _, boot := range boots {
				b.do(t, "then", hello(line, boot), hello(line, boot), hello(line, first), hello(2, 200))
			}
			b.open(t)
			b.do(t, "opened", hello(line, first), hello(line, greatest), hello(line, greatest-1))
		}
	}
}

// P18.2: a Hello without a Boot is refused, whether the line has one or not; nothing is told, and nothing changes.
func TestHelloWithoutABoot(t *testing.T) {
	b := begun(t, 100)
	b.do(t, "no boot", hello(1, 0), hello(0, 0), hello(1, 3), hello(1, 0), hello(2, 0))
	if got := b.s.Do(hello(1, 0)); got != nil || b.s.Boot(1) != 3 || b.s.Boot(2) != 0 {
		t.Fatal(got)
	}
}

// P18.2: a boot that was fenced stays so; the one that took its line is served.
func TestALineThatIsTaken(t *testing.T) {
	b := begun(t, roomy)
	b.do(t, "first", hello(1, 3), push(1, 3, items(9, 1, 2)...), pull(1, 3, 0))
	b.do(t, "taken", hello(1, 4), hello(1, 3), push(1, 3, item(9, 3)), pull(1, 3, 0), pull(1, 3, 99))
	b.mustSay(t, push(1, 3, item(9, 3)), api.Fenced)
	b.mustSay(t, pull(1, 3, 2), api.Fenced)
	b.do(t, "the other", push(1, 4, item(4, 1)), pull(1, 4, 1))
	b.open(t)
	b.do(t, "opened", hello(1, 3), pull(1, 3, 0), pull(1, 4, 0), push(1, 3, item(9, 3)), push(1, 4, item(4, 2)))
}

// P18.2: each other kind tells nothing, and changes nothing, be it right or not.
func TestOtherKinds(t *testing.T) {
	b := begun(t, roomy)
	b.do(t, "ahead", hello(1, 3), push(1, 3, items(9, 1, 3)...))
	lasts := []api.Last{{Ident: 9, Id: 9}}
	right := []api.Msg{
		{Kind: api.Welcome, Line: 1, Boot: 3}, {Kind: api.Welcome, Line: 1, Boot: 4}, {Kind: api.Fenced, Line: 1, Boot: 3}, {Kind: api.Fenced, Line: 2, Boot: 9},
		{Kind: api.Ack, Boot: 3, Lasts: lasts}, {Kind: api.News, Boot: 3, From: 3, To: 4, Items: items(9, 4, 4)}, {Kind: api.News, Boot: 3},
		{Kind: api.Snap, Boot: 3, To: 99, Lasts: lasts, State: small()}, {Kind: api.Snap, Boot: 3},
	}
	for _, m := range right {
		if wire.Check(m) != api.OK {
			t.Fatal(m)
		}
		b.do(t, "right", m)
		if got := b.s.Do(m); got != nil {
			t.Fatal(got)
		}
	}
}

// P18.2: what wire.Check refuses tells nothing, and changes nothing, of whatever kind.
func TestRefused(t *testing.T) {
	b := begun(t, roomy)
	b.do(t, "ahead", hello(1, 3), push(1, 3, items(9, 1, 3)...))
	with := func(m api.Msg, change func(m *api.Msg)) api.Msg {
		change(&m)
		return m
	}
	wrong := []api.Msg{
		{}, {Boot: 3}, {Kind: 9, Line: 1, Boot: 3}, {Kind: -1, Line: 1, Boot: 3}, {Kind: 1 << 32, Line: 1, Boot: 3}, {Kind: 1<<32 + 1, Line: 1, Boot: 4},
		push(1, 3), push(1, 3, items(9, 4, 12)...), push(1, 3, item(0, 4)), push(1, 3, item(9, 0)), push(1, 3, item(9, 4), item(9, 0)), push(2, 3),
		push(1, 3, item(9, 4), api.Item{Ident: 9, Id: 5}), push(1, 3, api.Item{Ident: 9, Id: 4, Mut: api.Mut{Kind: api.MutList, Id: 4}}),
		push(1, 0, item(9, 4)), pull(1, 0, 0), push(3, 0, item(9, 4)), pull(3, 0, 0),
	}
	for _, m := range []api.Msg{hello(1, 3), hello(1, 4), hello(2, 1), push(1, 3, item(9, 4)), push(1, 9, item(9, 4)), pull(1, 3, 0), pull(1, 9, 0), pull(1, 3, 99)} {
		wrong = append(wrong,
			with(m, func(m *api.Msg) { m.Boot = 0 }),
			with(m, func(m *api.Msg) { m.To = 1 }),
			with(m, func(m *api.Msg) { m.Lasts = []api.Last{{Ident: 1, Id: 1}} }),
			with(m, func(m *api.Msg) { m.State = small() }),
		)
		if m.Kind != api.Pull {
			wrong = append(wrong, with(m, func(m *api.Msg) { m.From = 1 }))
		}
		if m.Kind != api.Push {
			wrong = append(wrong, with(m, func(m *api.Msg) { m.Items = items(9, 4, 4) }))
		}
	}
	for _, m := range wrong {
		if wire.Check(m) != api.ErrWire {
			t.Fatal(m)
		}
		b.do(t, "wrong", m)
		if got := b.s.Do(m); got != nil {
			t.Fatal(got)
		}
	}
	b.do(t, "behind", push(1, 3, item(9, 4)), pull(1, 3, 0))
}
