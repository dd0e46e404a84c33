package wire_test

import (
	"cmp"
	"math"
	"slices"
	"strings"
	"testing"

	"factotum/api"
	"factotum/task"
	"factotum/wire"
)

// someNumber is 0 now and then, often small, often at the bounds of a length.
func someNumber(r func(n int) int) uint64 {
	switch r(4) {
	case 0:
		return uint64(r(4))
	case 1:
		return uint64(r(400))
	case 2:
		return oneOf(r, numbers())
	}
	return uint64(1+r(1<<30)) << r(35)
}

// above0 is any number but 0.
func above0(r func(n int) int) uint64 { return max(1, someNumber(r)) }

// rightMut is a mutation that Check passes.
func rightMut(r func(n int) int) api.Mut {
	m := oneOf(r, muts())
	if m.Id > 0 {
		m.Id = above0(r)
	}
	if m.List > 0 {
		m.List = above0(r)
	}
	if m.Text != "" {
		m.Text = oneOf(r, []string{"a", "b-2", "0123456789abcdef", "z", "milk"})
	}
	if m.Kind == api.MutRank || m.Kind == api.MutMake {
		m.F = oneOf(r, []float64{0, 1, -1, inf, -inf, 0.1, math.MaxFloat64, math.SmallestNonzeroFloat64})
	}
	return m
}

// rightItems are n items that may be in a message.
func rightItems(r func(n int) int, n int) []api.Item {
	var l []api.Item
	for range n {
		l = append(l, item(above0(r), above0(r), rightMut(r)))
	}
	return l
}

// rightLasts are at most n Lasts that may be in a message.
func rightLasts(r func(n int) int, n int) []api.Last {
	var l []api.Last
	for range n {
		l = append(l, api.Last{Ident: above0(r), Id: above0(r)})
	}
	slices.SortFunc(l, func(a, b api.Last) int { return cmp.Compare(a.Ident, b.Ident) })
	return slices.CompactFunc(l, func(a, b api.Last) bool { return a.Ident == b.Ident })
}

// rightState is a Right state, now and then an empty one.
func rightState(r func(n int) int) api.State {
	var s api.State
	for range r(4) {
		s.Lists = append(s.Lists, api.List{Id: above0(r), Name: oneOf(r, []string{"l", "food", "~ ~", strings.Repeat("n", 60)})})
	}
	for range r(6) {
		if len(s.Lists) == 0 {
			break
		}
		x := api.Task{Id: above0(r), List: oneOf(r, s.Lists).Id, Title: oneOf(r, []string{"a", "eat", " "}), Done: r(2) == 1, Rank: oneOf(r, []float64{0, 1, -inf, 2.5}), Est: oneOf(r, []float64{0, theNaN, inf, -3})}
		for range r(4) {
			x.Tags = append(x.Tags, oneOf(r, []string{"a", "b", "b-", "0"}))
		}
		s.Tasks = append(s.Tasks, x)
	}
	return task.Canon(s)
}

// rightMsg is a message that may be.
func rightMsg(r func(n int) int) api.Msg {
	m := api.Msg{Kind: oneOf(r, kinds()), Boot: above0(r)}
	switch m.Kind {
	case api.Hello, api.Welcome, api.Fenced:
		m.Line = someNumber(r)
	case api.Push:
		m.Line, m.Items = someNumber(r), rightItems(r, 1+r(8))
	case api.Ack:
		m.Lasts = rightLasts(r, 1+r(12))
	case api.Pull:
		m.Line, m.From = someNumber(r), someNumber(r)
	case api.News:
		m.Items = rightItems(r, r(9))
		m.From = min(someNumber(r), greatest-8)
		m.To = m.From + uint64(len(m.Items))
	case api.Snap:
		m.To, m.Lasts, m.State = someNumber(r), rightLasts(r, r(12)), rightState(r)
	}
	return m
}

// anyMsg has anything anywhere, of a message that may be or of nothing.
func anyMsg(r func(n int) int) api.Msg {
	m, o := api.Msg{}, rightMsg(r)
	if r(3) > 0 {
		m = rightMsg(r)
	}
	for range r(4) {
		switch r(9) {
		case 0:
			m.Kind = oneOf(r, []int{-1, 0, 9, 256, math.MinInt, math.MaxInt, o.Kind})
		case 1:
			m.Line = someNumber(r)
		case 2:
			m.Boot = uint64(r(2)) * someNumber(r)
		case 3:
			m.From = someNumber(r)
		case 4:
			m.To = someNumber(r)
		case 5:
			m.Items = rightItems(r, r(11))
		case 6:
			m.Items = append(slices.Clone(o.Items), oneOf(r, wrongItems()))
		case 7:
			m.Lasts = append(rightLasts(r, r(5)), api.Last{Ident: someNumber(r), Id: someNumber(r)})
		case 8:
			m.State = oneOf(r, append(wrongStates(), o.State, small()))
		}
	}
	return m
}

// P15.1, P15.2: made-up messages, whether they may be or not.
func TestManyMessages(t *testing.T) {
	r := random(1)
	passed := map[int]int{}
	for range 4000 {
		m := rightMsg(r)
		pass(t, "made up", m)
		passed[m.Kind]++
		m = anyMsg(r)
		if may(m) {
			pass(t, "of anything", m)
			continue
		}
		refuse(t, "of anything", m)
		passed[0]++
	}
	for kind := range 9 {
		if passed[kind] < 200 {
			t.Fatal("too few of a Kind (0: of wrong ones)", passed)
		}
	}
}

// P15.1, P15.4: messages that are one step off one that may be: they may not be, or have other bytes.
func TestManyOthers(t *testing.T) {
	r := random(2)
	for range 60 {
		m := rightMsg(r)
		b, _ := wire.Put(m)
		for _, o := range others(m) {
			mustBeSame(t, m, o, false)
			if !may(o) {
				refuse(t, "one step off", o)
				continue
			}
			pass(t, "one step off", o)
			if framed(body(o)) == string(b) {
				t.Fatalf("two messages have the bytes %q:\n%s and\n%s", b, told(m), told(o))
			}
		}
	}
}

// P15.4: messages that may be are the same, if their bytes are.
func TestManyPairs(t *testing.T) {
	r := random(3)
	var l []api.Msg
	var bytes []string
	for range 300 {
		m := rightMsg(r)
		b, e := wire.Put(m)
		if e != api.OK {
			t.Fatal(e, told(m))
		}
		l, bytes = append(l, m), append(bytes, string(b))
	}
	for i, a := range l {
		for j, b := range l {
			if wire.Same(a, b) != (bytes[i] == bytes[j]) {
				t.Fatalf("Same of\n%s and\n%s, and their bytes say otherwise", told(a), told(b))
			}
		}
	}
}

// aStepOff is b with something done to it.
func aStepOff(r func(n int) int, b string) string {
	if len(b) == 0 {
		return "\x00"
	}
	at, n := r(len(b)), 1+r(3)
	end := min(at+n, len(b))
	some := string([]byte{byte(oneOf(r, []int{0, 1, 2, 8, 13, 127, 128, 129, 130, 136, 255, r(256)}))})
	switch r(7) {
	case 0:
		return b[:at] + b[end:]
	case 1:
		return b[:at] + some + b[at:]
	case 2:
		return b[:at] + num(someNumber(r)) + b[at+1:]
	case 3:
		return b[:at] + b[at:end] + b[at:]
	case 4:
		return b[:at] + string([]byte{b[at] ^ 1<<r(8)}) + b[at+1:]
	case 5:
		return b[:at] + string([]byte{b[at] + byte(r(2)*2) - 1}) + b[at+1:]
	}
	return b[:at] + some + b[at+1:]
}

// onlyThese asks for P15.4 of these bytes: what Of tells of them has just these by Put; and that it is what the chapter's words tell. It says whether b is a message.
func onlyThese(t *testing.T, b string) bool {
	t.Helper()
	m, e := wire.Of([]byte(b))
	want, is := msgOf(b)
	if (e == api.OK) != is || e != api.OK && e != api.ErrWire || told(m) != told(want) {
		t.Fatalf("Of tells %d,\n%s, not\n%s, of %q", e, told(m), told(want), b)
	}
	if again, e := wire.Put(m); is && (e != api.OK || string(again) != b) {
		t.Fatalf("Put tells %d, %q of what Of tells of %q", e, again, b)
	}
	return is
}

// P15.4: bytes a few steps off a message's, in its frame and on the whole.
func TestManyBytes(t *testing.T) {
	r := random(4)
	messages := 0
	for range 6000 {
		b := body(rightMsg(r))
		for range 8 {
			b = aStepOff(r, b)
			if onlyThese(t, framed(b)) {
				messages++
			}
		}
		if onlyThese(t, aStepOff(r, framed(b))) {
			t.Fatal("a frame a step off is a frame")
		}
	}
	if messages < 1000 {
		t.Fatal("too few messages among the bytes:", messages)
	}
}

// P15.2: bytes that mean nothing, in a frame and without one.
func TestManyOddBytes(t *testing.T) {
	r := random(5)
	for range 20000 {
		b := make([]byte, r(60))
		for i := range b {
			b[i] = byte(oneOf(r, []int{0, 0, 0, 1, 1, 2, 3, 4, 5, 7, 8, 9, 127, 128, 129, r(256)}))
		}
		onlyThese(t, framed(string(b)))
		none(t, "without a frame", string(b))
		asItem(t, "odd bytes", string(b))
	}
}

// P15.3, P15.4: made-up items, and bytes a few steps off them.
func TestManyItems(t *testing.T) {
	r := random(6)
	items := 0
	for range 5000 {
		x := rightItems(r, 1)[0]
		b := itemBytes(x)
		passItem(t, "made up", x, b)
		for range 6 {
			b = aStepOff(r, b)
			asItem(t, "a step off", b)
			if _, is := itemOf(b); is {
				items++
			}
		}
		y := rightItems(r, 1)[0]
		if wire.SameItem(x, y) != (string(wire.PutItem(x)) == string(wire.PutItem(y))) {
			t.Fatalf("SameItem of %s and %s, and their bytes say otherwise", toldItem(x), toldItem(y))
		}
	}
	if items < 1000 {
		t.Fatal("too few items among the bytes:", items)
	}
}

// P15.3: PutItem of whatever may be handed in, and what OfItem makes of it.
func TestManyOddItems(t *testing.T) {
	r := random(7)
	for range 5000 {
		x := item(someNumber(r), someNumber(r), api.Mut{
			Kind: oneOf(r, []int{-1, 0, 1, 2, 8, 13, 14, 128, math.MinInt, math.MaxInt}), Id: someNumber(r), List: someNumber(r),
			Text: strings.Repeat(oneOf(r, []string{"", "", "a", "\xff", "ab"}), r(70)), F: oneOf(r, []float64{0, 0, 0, minusZero, theNaN, otherNaN, 1, inf}), Flag: r(3) == 0,
		})
		mustPutItem(t, "of anything", x, itemBytes(x))
		asItem(t, "of anything", itemBytes(x))
		if !wire.SameItem(x, x) {
			t.Fatalf("%s isn't the same as itself", toldItem(x))
		}
	}
}

// P1, P3: another time the same is told, of whatever is handed in.
func TestTheSameAnswers(t *testing.T) {
	var before []string
	for round := range 2 {
		r := random(8)
		for i := range 400 {
			m, o := anyMsg(r), anyMsg(r)
			b, e := wire.Put(m)
			x, f := wire.Of(b)
			y, g := wire.OfItem(b)
			all := strings.Join([]string{told(m), string(b), told(x), toldItem(y), count(int(e)), count(int(f)), count(int(g)), flag(wire.Same(m, o)), flag(wire.Same(o, m))}, "|")
			if round == 0 {
				before = append(before, all)
			} else if before[i] != all {
				t.Fatalf("another time there is\n%s, not\n%s", all, before[i])
			}
		}
	}
}

// P1: very much of all ends, too.
func TestAnyArguments(t *testing.T) {
	for _, m := range []api.Msg{
		{Kind: api.Push, Boot: 1, Items: make([]api.Item, 1<<20)},
		{Kind: api.News, Boot: 1, To: 1 << 20, Items: make([]api.Item, 1<<20)},
		{Kind: api.Ack, Boot: 1, Lasts: make([]api.Last, 1<<20)},
		{Kind: api.Snap, Boot: 1, Lasts: lasts(1 << 20)},
		{Kind: api.Snap, Boot: 1, State: api.State{Lists: make([]api.List, 1<<16), Tasks: make([]api.Task, 1<<16)}},
	} {
		if e := wire.Check(m); e != api.ErrWire {
			t.Fatalf("Kind %d: Check tells %d", m.Kind, e)
		}
		if b, e := wire.Put(m); e != api.ErrWire || b != nil {
			t.Fatalf("Kind %d: Put tells %d", m.Kind, e)
		}
		mustBeSame(t, m, m, true)
	}
	if x, e := wire.OfItem(make([]byte, 1<<20)); e != api.ErrWire || x != (api.Item{}) {
		t.Fatal("very many bytes:", e)
	}
	if m, e := wire.Of(make([]byte, 1<<20)); e != api.ErrWire || told(m) != told(api.Msg{}) {
		t.Fatal("very many bytes:", e)
	}
}
