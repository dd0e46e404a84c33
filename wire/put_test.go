package wire_test

import (
	"strings"
	"testing"

	"factotum/api"
	"factotum/wire"
)

// Floats' keys, by hand.
const (
	keyNaN   = "\x00\x00\x00\x00\x00\x00\x00\x00"
	keyBelow = "\x00\x0f\xff\xff\xff\xff\xff\xff"
	key0     = "\x80\x00\x00\x00\x00\x00\x00\x00"
	key1     = "\xbf\xf0\x00\x00\x00\x00\x00\x00"
	keyAbove = "\xff\xf0\x00\x00\x00\x00\x00\x00"
)

// written is a message, and what is in its frame.
type written struct {
	b string
	m api.Msg
}

// byHand has each Kind at least once.
func byHand() []written {
	drop := "\x02\x7f\x00\x00" + key0 + "\x00" // 13 bytes
	list := "\x01\x03\x00\x04food" + key0 + "\x00"
	dropped, listed := api.Mut{Kind: api.MutDrop, Id: 127}, api.Mut{Kind: api.MutList, Id: 3, Text: "food"}
	nobody := "\x02\x00\x00"
	return []written{
		{"\x01\x01\x02\x00\x00\x00\x00" + nobody, api.Msg{Kind: api.Hello, Line: 1, Boot: 2}},
		{"\x01\x00\x88\xff\xff\xff\xff\xff\xff\xff\xff\x00\x00\x00\x00" + nobody, api.Msg{Kind: api.Hello, Boot: greatest}},
		{"\x02\x82\x01\x2c\x7f\x00\x00\x00\x00" + nobody, api.Msg{Kind: api.Welcome, Line: 300, Boot: 127}},
		{"\x05\x81\x80\x81\xff\x00\x00\x00\x00" + nobody, api.Msg{Kind: api.Fenced, Line: 128, Boot: 255}},
		{"\x03\x07\x09\x00\x00\x01\x10\x04\x05\x0d" + drop + "\x00" + nobody, api.Msg{Kind: api.Push, Line: 7, Boot: 9, Items: []api.Item{item(4, 5, dropped)}}},
		{"\x03\x00\x09\x00\x00\x02\x11\x81\x80\x05\x0d" + drop + "\x14\x01\x01\x11" + list + "\x00" + nobody, api.Msg{Kind: api.Push, Boot: 9, Items: []api.Item{item(128, 5, dropped), item(1, 1, listed)}}},
		{"\x04\x00\x81\x80\x00\x00\x00\x02\x01\x05\x82\x01\x2c\x09" + nobody, api.Msg{Kind: api.Ack, Boot: 128, Lasts: []api.Last{{Ident: 1, Id: 5}, {Ident: 300, Id: 9}}}},
		{"\x06\x07\x09\x83\x01\x00\x00\x00\x00\x00" + nobody, api.Msg{Kind: api.Pull, Line: 7, Boot: 9, From: 1 << 16}},
		{"\x07\x00\x09\x7f\x81\x80\x01\x13\x04\x05\x10" + list[:3] + "\x03eat" + key0 + "\x00\x00" + nobody, api.Msg{Kind: api.News, Boot: 9, From: 127, To: 128, Items: []api.Item{item(4, 5, api.Mut{Kind: api.MutList, Id: 3, Text: "eat"})}}},
		{"\x07\x00\x09\x00\x00\x00\x00" + nobody, api.Msg{Kind: api.News, Boot: 9}},
		{"\x07\x00\x09\x05\x05\x00\x00" + nobody, api.Msg{Kind: api.News, Boot: 9, From: 5, To: 5}},
		{"\x08\x00\x09\x00\x00\x00\x00" + nobody, api.Msg{Kind: api.Snap, Boot: 9}},
		{"\x08\x00\x09\x00\x82\x01\x00\x00\x01\x03\x02" + "\x05\x01\x06\x01l\x00", api.Msg{Kind: api.Snap, Boot: 9, To: 256, Lasts: []api.Last{{Ident: 3, Id: 2}}, State: api.State{Lists: []api.List{{Id: 6, Name: "l"}}}}},
		{"\x08\x00\x09\x00\x01\x00\x00" + "\x20\x01\x06\x01l\x01\x07\x06\x02ab\x01" + key1 + keyNaN + "\x02\x01x\x01y", api.Msg{Kind: api.Snap, Boot: 9, To: 1, State: api.State{
			Lists: []api.List{{Id: 6, Name: "l"}}, Tasks: []api.Task{{Id: 7, List: 6, Title: "ab", Done: true, Rank: 1, Est: theNaN, Tags: []string{"x", "y"}}}}}},
	}
}

// P15.2: the bytes of each Kind, there and back; two of them to the last one of the frame.
func TestBytesByHand(t *testing.T) {
	there := map[int]bool{}
	for _, x := range byHand() {
		there[x.m.Kind] = true
		mustPass(t, "by hand", x.m, framed(x.b))
	}
	if len(there) != len(kinds()) {
		t.Fatal("there are only the Kinds", there)
	}
	mustPass(t, "a Hello", byHand()[0].m, "\xa5\x00\x0a\x01\x01\x02\x00\x00\x00\x00\x02\x00\x00\xeb\x45\xc3\xa4")
	mustPass(t, "an Ack", byHand()[6].m, "\xa5\x00\x11\x04\x00\x81\x80\x00\x00\x00\x02\x01\x05\x82\x01\x2c\x09\x02\x00\x00\x69\x7e\x10\xf7")
}

// P15.2: the bytes of messages of each Kind with all that it names, and with each mutation.
func TestPutOfKinds(t *testing.T) {
	for _, kind := range kinds() {
		pass(t, "full", full(kind))
		pass(t, "bare", bare(kind))
	}
	var l []api.Item
	for i, m := range muts() {
		l = append(l, item(uint64(1)<<(5*i), greatest>>(4*i), m))
	}
	for i := range len(l) - 7 {
		pass(t, "mutations", api.Msg{Kind: api.Push, Line: 7, Boot: 9, Items: l[i : i+8]})
		pass(t, "mutations", api.Msg{Kind: api.News, Boot: 9, From: greatest - 8, To: greatest, Items: l[i : i+8]})
	}
}

// longest are the messages with the most bytes of each Kind.
func longest() []api.Msg {
	var items []api.Item
	for i := range uint64(8) {
		items = append(items, item(greatest-i, greatest-i, api.Mut{Kind: api.MutMake, Id: greatest, List: greatest, Text: strings.Repeat("t", api.MaxTitle), F: inf}))
	}
	var ids []api.Last
	for i := range uint64(all) {
		ids = append(ids, api.Last{Ident: greatest - all + i + 1, Id: greatest})
	}
	return []api.Msg{
		{Kind: api.Hello, Line: greatest, Boot: greatest}, {Kind: api.Welcome, Line: greatest, Boot: greatest},
		{Kind: api.Push, Line: greatest, Boot: greatest, Items: items}, {Kind: api.Ack, Boot: greatest, Lasts: ids},
		{Kind: api.Fenced, Line: greatest, Boot: greatest}, {Kind: api.Pull, Line: greatest, Boot: greatest, From: greatest},
		{Kind: api.News, Boot: greatest, From: greatest - 8, To: greatest, Items: items}, {Kind: api.Snap, Boot: greatest, To: greatest, Lasts: ids, State: most()},
	}
}

// most is a Right state of which no other one has more bytes.
func most() api.State {
	var s api.State
	for i := range uint64(api.MaxLists) {
		s.Lists = append(s.Lists, api.List{Id: greatest - 20 + i, Name: strings.Repeat("n", api.MaxTitle)})
	}
	for i := range uint64(api.MaxTasks) {
		x := api.Task{Id: greatest - 60 + i, List: greatest - 20 + i%20, Title: strings.Repeat("t", api.MaxTitle), Done: true, Rank: -inf, Est: inf}
		for _, c := range "abcd" {
			x.Tags = append(x.Tags, strings.Repeat(string(c), api.MaxTag))
		}
		s.Tasks = append(s.Tasks, x)
	}
	return s
}

// P15.2: the longest messages, which all fit into a frame, so that none is ErrLong: one with more of anything may not be.
func TestPutOfTheLongest(t *testing.T) {
	for _, m := range longest() {
		if n := len(body(m)); n > api.MaxRecord {
			t.Fatalf("Kind %d: %d bytes are no frame's", m.Kind, n)
		}
		pass(t, "the longest", m)
	}
	for i, change := range []func(m *api.Msg){
		func(m *api.Msg) { m.Lasts = append([]api.Last{{Ident: 1, Id: 1}}, m.Lasts...) },
		func(m *api.Msg) { m.Lasts = lasts(all * 40) },
		func(m *api.Msg) { m.State.Lists[3].Name += "n" },
		func(m *api.Msg) { m.State.Tasks[3].Title += strings.Repeat("t", api.MaxRecord) },
		func(m *api.Msg) { m.State.Tasks[3].Tags = append(m.State.Tasks[3].Tags, "e") },
	} {
		m := api.Msg{Kind: api.Snap, Boot: 1, Lasts: longest()[7].Lasts, State: most()}
		pass(t, "long", m)
		change(&m)
		if b, e := wire.Put(m); e != api.ErrWire || b != nil {
			t.Fatalf("with more, %d: Put tells %d and %d bytes", i, e, len(b))
		}
	}
	long := item(1, 1, api.Mut{Kind: api.MutEdit, Id: 1, Text: strings.Repeat("t", api.MaxRecord+1)})
	refuse(t, "an item that no frame holds", api.Msg{Kind: api.Push, Boot: 1, Items: []api.Item{long}})
}

// P15.2: with Check's error there are no bytes.
func TestPutOfWrongMessages(t *testing.T) {
	for _, kind := range kinds() {
		for i, change := range []func(m *api.Msg){
			func(m *api.Msg) { m.Boot = 0 },
			func(m *api.Msg) { m.Kind = 0 },
			func(m *api.Msg) { m.Kind = -m.Kind },
			func(m *api.Msg) { m.Kind += 8 },
			func(m *api.Msg) { m.Kind += 256 },
			func(m *api.Msg) { m.Items = plain(9) },
			func(m *api.Msg) { m.Items = wrongItems()[:1] },
			func(m *api.Msg) { m.Lasts = lasts(all + 1) },
			func(m *api.Msg) { m.Lasts = make([]api.Last, 1) },
			func(m *api.Msg) { m.State = wrongStates()[0] },
			func(m *api.Msg) { m.Line, m.To = 1, 1 },
			func(m *api.Msg) { m.Line, m.Lasts = 1, lasts(1) },
			func(m *api.Msg) { m.From, m.State = 1, small() },
		} {
			m := full(kind)
			change(&m)
			if b, e := wire.Put(m); e != api.ErrWire || b != nil {
				t.Fatalf("Kind %d, change %d: Put tells %d and %q", kind, i, e, b)
			}
		}
	}
}
