package wire_test

import (
	"fmt"
	"math"
	"slices"
	"strings"
	"testing"

	"factotum/api"
	"factotum/wire"
)

const (
	greatest = math.MaxUint64
	all      = 2000 // Lasts of a message at most
)

var (
	inf       = math.Inf(1)
	minusZero = math.Copysign(0, -1)
	theNaN    = math.Float64frombits(0x7ff8000000000001)
	otherNaN  = math.Float64frombits(0xfff0000000000002)
)

func bits(f float64) string { return fmt.Sprintf("%v(%x)", f, math.Float64bits(f)) }

// toldItem is all of an item, its float by its bits.
func toldItem(x api.Item) string {
	m := x.Mut
	return fmt.Sprintf("item %d of %d: Kind %d, Id %d, List %d, Text %q, F %s, Flag %t", x.Id, x.Ident, m.Kind, m.Id, m.List, m.Text, bits(m.F), m.Flag)
}

// told is all of a message.
func told(m api.Msg) string {
	var b strings.Builder
	fmt.Fprintf(&b, "Kind %d, Line %d, Boot %d, From %d, To %d", m.Kind, m.Line, m.Boot, m.From, m.To)
	for _, x := range m.Items {
		b.WriteString("; " + toldItem(x))
	}
	for _, x := range m.Lasts {
		fmt.Fprintf(&b, "; last %d of %d", x.Id, x.Ident)
	}
	for _, l := range m.State.Lists {
		fmt.Fprintf(&b, "; list %d %q", l.Id, l.Name)
	}
	for _, t := range m.State.Tasks {
		fmt.Fprintf(&b, "; task %d of %d %q %t %s %s %q", t.Id, t.List, t.Title, t.Done, bits(t.Rank), bits(t.Est), t.Tags)
	}
	return b.String()
}

// wide is m with its lists as long as there is room for.
func wide(m api.Msg) api.Msg {
	m.Items, m.Lasts, m.State.Lists = m.Items[:cap(m.Items)], m.Lasts[:cap(m.Lasts)], m.State.Lists[:cap(m.State.Lists)]
	m.State.Tasks = slices.Clone(m.State.Tasks[:cap(m.State.Tasks)])
	for i, t := range m.State.Tasks {
		m.State.Tasks[i].Tags = t.Tags[:cap(t.Tags)]
	}
	return m
}

// behind is a copy of l with x behind it, and no room behind that.
func behind[T any](l []T, x T) []T {
	n := len(l)
	return append(append(make([]T, 0, n+1), l...), x)[: n : n+1]
}

// roomy is m in memory of its own, with something behind each of its lists that would be seen.
func roomy(m api.Msg) api.Msg {
	m.Items = behind(m.Items, api.Item{Ident: 71, Id: 72, Mut: api.Mut{Kind: api.MutDrop, Id: 73}})
	m.Lasts = behind(m.Lasts, api.Last{Ident: greatest, Id: 74})
	m.State.Lists = behind(m.State.Lists, api.List{Id: greatest, Name: "behind"})
	m.State.Tasks = behind(m.State.Tasks, api.Task{Id: greatest, List: 2, Title: "behind"})
	for i, t := range m.State.Tasks {
		m.State.Tasks[i].Tags = behind(t.Tags, "z")
	}
	return m
}

// spoil changes all that a caller may change of m, as far as there is room.
func spoil(m api.Msg) {
	w := wide(m)
	for i := range w.Items {
		w.Items[i] = api.Item{Ident: 99, Id: 99, Mut: api.Mut{Kind: 99, Id: 99, List: 99, Text: "spoilt", F: 99, Flag: true}}
	}
	for i := range w.Lasts {
		w.Lasts[i] = api.Last{Ident: 99, Id: 99}
	}
	for i := range w.State.Lists {
		w.State.Lists[i] = api.List{Id: 99, Name: "spoilt"}
	}
	for _, t := range w.State.Tasks {
		for i := range t.Tags {
			t.Tags[i] = "spoilt"
		}
	}
	// wide tells tasks of its own.
	tasks := m.State.Tasks[:cap(m.State.Tasks)]
	for i := range tasks {
		tasks[i] = api.Task{Id: 99, List: 99, Title: "spoilt", Done: true, Rank: 99, Est: 99, Tags: []string{"spoilt"}}
	}
}

func spoilBytes(b []byte) {
	b = b[:cap(b)]
	for i := range b {
		b[i] ^= 0x55
	}
}

// given are the bytes of a text, in memory of their own, with something behind them or without.
func given(b string, room bool) []byte {
	if room {
		return behind([]byte(b), 'b')
	}
	return slices.Clip([]byte(b))
}

// mustTell asks that got is this message, with nothing of anybody's behind its lists.
func mustTell(t *testing.T, what string, got, want api.Msg) {
	t.Helper()
	if told(got) != told(want) {
		t.Fatalf("%s: the message is\n%s, not\n%s", what, told(got), told(want))
	}
	nothing(t, what, got.Items)
	nothing(t, what, got.Lasts)
	nothing(t, what, got.State.Lists)
	for _, x := range got.State.Tasks {
		nothing(t, what, x.Tags)
	}
	for _, x := range got.State.Tasks[len(got.State.Tasks):cap(got.State.Tasks)] {
		if x.Id != 0 || x.Title != "" || cap(x.Tags) != 0 {
			t.Fatalf("%s: behind the tasks lies %v", what, x)
		}
	}
}

// nothing asks that behind an answer's list there is nothing.
func nothing[T comparable](t *testing.T, what string, l []T) {
	t.Helper()
	var none T
	for _, x := range l[len(l):cap(l)] {
		if x != none {
			t.Fatalf("%s: behind a list lies %v", what, x)
		}
	}
}

// mustBytes asks for these bytes, and none behind them.
func mustBytes(t *testing.T, what string, got []byte, want string) {
	t.Helper()
	if string(got) != want {
		t.Fatalf("%s: the bytes are\n%q, not\n%q", what, got, want)
	}
	nothing(t, what, got)
}

// twice does something with m, and with m where something lies behind each of its lists, and asks that it stays as it was.
func twice(t *testing.T, what string, m api.Msg, do func(m api.Msg)) {
	t.Helper()
	for _, room := range []bool{false, true} {
		m := m
		if room {
			m = roomy(m)
		}
		was := told(wide(m))
		do(m)
		if is := told(wide(m)); is != was {
			t.Fatalf("%s: what was handed in is\n%s, not\n%s", what, is, was)
		}
	}
}

// mustPass asks that m may be, that Put tells these bytes, and that Of tells m of them.
func mustPass(t *testing.T, what string, m api.Msg, want string) {
	t.Helper()
	twice(t, what, m, func(m api.Msg) {
		if e := wire.Check(m); e != api.OK {
			t.Fatalf("%s: Check tells %d of\n%s", what, e, told(m))
		}
		b, e := wire.Put(m)
		again, f := wire.Put(m)
		if e != api.OK || f != api.OK {
			t.Fatalf("%s: Put tells %d, then %d", what, e, f)
		}
		mustBytes(t, what+": Put", b, want)
		spoilBytes(b)
		mustBytes(t, what+": Put, the other answer spoilt", again, want)
		spoilBytes(again)
	})
	mustBe(t, what, want, m)
}

// mustBe asks that b is m, and that answers share nothing with each other or with b.
func mustBe(t *testing.T, what, b string, m api.Msg) {
	t.Helper()
	for _, room := range []bool{false, true} {
		in := given(b, room)
		got, e := wire.Of(in)
		again, f := wire.Of(in)
		if e != api.OK || f != api.OK {
			t.Fatalf("%s: Of tells %d, then %d, of %q", what, e, f, b)
		}
		mustTell(t, what+": Of", got, m)
		spoil(got)
		mustTell(t, what+": Of, the other answer spoilt", again, m)
		if string(in) != b || room && in[:len(b)+1][len(b)] != 'b' {
			t.Fatalf("%s: Of changed what was handed in", what)
		}
		spoilBytes(in)
		mustTell(t, what+": Of, the bytes spoilt", again, m)
	}
}

// pass is mustPass with the bytes that the chapter's words tell.
func pass(t *testing.T, what string, m api.Msg) {
	t.Helper()
	mustPass(t, what, m, framed(body(m)))
}

// refuse asks that m may not be, and that its bytes, as they would be, are no message.
func refuse(t *testing.T, what string, m api.Msg) {
	t.Helper()
	twice(t, what, m, func(m api.Msg) {
		if e := wire.Check(m); e != api.ErrWire {
			t.Fatalf("%s: Check tells %d of\n%s", what, e, told(m))
		}
		if b, e := wire.Put(m); e != api.ErrWire || b != nil {
			t.Fatalf("%s: Put tells %d, %q of\n%s", what, e, b, told(m))
		}
	})
	// A float that isn't Canon has the bytes of one that is.
	if b := body(m); len(b) <= api.MaxRecord && !unclean(m) {
		none(t, what, framed(b))
	}
}

// unclean: there are floats that aren't Canon.
func unclean(m api.Msg) bool {
	odd := func(f float64) bool { return f == 0 && math.Signbit(f) || f != f && bits(f) != bits(theNaN) }
	return slices.ContainsFunc(m.Items, func(x api.Item) bool { return odd(x.Mut.F) }) ||
		slices.ContainsFunc(m.State.Tasks, func(x api.Task) bool { return odd(x.Rank) || odd(x.Est) })
}

// none asks that b is no message.
func none(t *testing.T, what, b string) {
	t.Helper()
	for _, room := range []bool{false, true} {
		in := given(b, room)
		if m, e := wire.Of(in); e != api.ErrWire || told(m) != told(api.Msg{}) {
			t.Fatalf("%s: Of tells %d,\n%s, of\n%q", what, e, told(m), b)
		}
		if string(in) != b {
			t.Fatalf("%s: Of changed what was handed in", what)
		}
	}
}

// passItem asks that PutItem tells these bytes of x, and OfItem x of them.
func passItem(t *testing.T, what string, x api.Item, want string) {
	t.Helper()
	mustPutItem(t, what, x, want)
	for _, room := range []bool{false, true} {
		in := given(want, room)
		got, e := wire.OfItem(in)
		if e != api.OK || string(in) != want || room && in[:len(want)+1][len(want)] != 'b' {
			t.Fatalf("%s: OfItem tells %d of %q, which is %q behind it", what, e, want, in)
		}
		spoilBytes(in)
		if toldItem(got) != toldItem(x) {
			t.Fatalf("%s: OfItem tells\n%s, not\n%s", what, toldItem(got), toldItem(x))
		}
	}
}

// mustPutItem asks what PutItem tells, whatever the item is.
func mustPutItem(t *testing.T, what string, x api.Item, want string) {
	t.Helper()
	b, again := wire.PutItem(x), wire.PutItem(x)
	mustBytes(t, what+": PutItem", b, want)
	spoilBytes(b)
	mustBytes(t, what+": PutItem, the other answer spoilt", again, want)
}

// noItem asks that b is no item.
func noItem(t *testing.T, what, b string) {
	t.Helper()
	for _, room := range []bool{false, true} {
		in := given(b, room)
		if x, e := wire.OfItem(in); e != api.ErrWire || x != (api.Item{}) {
			t.Fatalf("%s: OfItem tells %d, %s, of %q", what, e, toldItem(x), b)
		}
		if string(in) != b {
			t.Fatalf("%s: OfItem changed what was handed in", what)
		}
	}
}

// item is one with a mutation that Check passes.
func item(ident, id uint64, m api.Mut) api.Item { return api.Item{Ident: ident, Id: id, Mut: m} }

// plain are n items, all unlike.
func plain(n int) []api.Item {
	var l []api.Item
	for i := range n {
		l = append(l, item(uint64(300+i), uint64(i+1), api.Mut{Kind: api.MutDrop, Id: uint64(100 + i)}))
	}
	return l
}

// lasts are n of them, with Idents and Ids of many lengths.
func lasts(n int) []api.Last {
	var l []api.Last
	for i := range n {
		l = append(l, api.Last{Ident: uint64(i + 1), Id: uint64(1+i*i) << (i % 40)})
	}
	return l
}

// small is a Right state with floats of each class.
func small() api.State {
	return api.State{
		Lists: []api.List{{Id: 2, Name: "food"}, {Id: 300, Name: "work"}},
		Tasks: []api.Task{
			{Id: 3, List: 2, Title: "eat", Rank: 1, Est: theNaN, Tags: []string{"b", "d"}},
			{Id: 7, List: 300, Title: "drink", Done: true, Rank: -inf, Est: 2},
			{Id: greatest, List: 2, Title: "~", Est: inf, Tags: []string{"0-9"}},
		},
	}
}

// muts has a mutation of each Kind.
func muts() []api.Mut {
	return []api.Mut{
		{Kind: api.MutList, Id: 3, Text: "food"},
		{Kind: api.MutDrop, Id: 127},
		{Kind: api.MutMake, Id: 128, List: 300, Text: "a b", F: -2.5},
		{Kind: api.MutEdit, Id: 1, Text: strings.Repeat("~", api.MaxTitle)},
		{Kind: api.MutDone, Id: 1, Flag: true},
		{Kind: api.MutMove, Id: 2, List: greatest, F: inf},
		{Kind: api.MutRank, Id: 2, F: -inf},
		{Kind: api.MutEst, Id: 2, F: theNaN},
		{Kind: api.MutTag, Id: 2, Text: "0123456789abcdef"},
		{Kind: api.MutUntag, Id: 2, Text: "-"},
		{Kind: api.MutDelete, Id: 1 << 16},
		{Kind: api.MutClear, List: 5},
		{Kind: api.MutSpread, List: 1 << 32},
	}
}

// full is a message of this Kind with all that it names.
func full(kind int) api.Msg {
	m := api.Msg{Kind: kind, Boot: 9}
	switch kind {
	case api.Hello, api.Welcome, api.Fenced:
		m.Line = 7
	case api.Push:
		m.Line, m.Items = 7, plain(3)
	case api.Ack:
		m.Lasts = lasts(3)
	case api.Pull:
		m.Line, m.From = 7, 3
	case api.News:
		m.From, m.To, m.Items = 3, 6, plain(3)
	case api.Snap:
		m.To, m.Lasts, m.State = 5, lasts(3), small()
	}
	return m
}

// bare is a message of this Kind with as little as may be.
func bare(kind int) api.Msg {
	m := api.Msg{Kind: kind, Boot: 1}
	switch kind {
	case api.Push:
		m.Items = plain(1)
	case api.Ack:
		m.Lasts = lasts(1)
	}
	return m
}

// kinds are the eight.
func kinds() []int { return []int{1, 2, 3, 4, 5, 6, 7, 8} }

// random tells numbers below n, the same ones each time.
func random(seed uint64) func(n int) int {
	return func(n int) int {
		seed = seed*6364136223846793005 + 1442695040888963407
		return int(seed>>33) % n
	}
}

// oneOf is one of l.
func oneOf[T any](r func(n int) int, l []T) T { return l[r(len(l))] }
