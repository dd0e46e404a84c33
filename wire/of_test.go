package wire_test

import (
	"math"
	"strings"
	"testing"

	"factotum/api"
	"factotum/wire"
)

// samples are messages of each Kind whose bytes are few.
func samples() []api.Msg {
	var l []api.Msg
	for _, kind := range kinds() {
		l = append(l, full(kind), bare(kind))
	}
	for _, x := range byHand() {
		l = append(l, x.m)
	}
	return l
}

// as asks that b is what the chapter's words tell: a message, or none.
func as(t *testing.T, what, b string) {
	t.Helper()
	m, is := msgOf(b)
	if !is {
		none(t, what, b)
		return
	}
	pass(t, what, m)
}

// P15.2: no bytes, bytes of no frame, frames of no message.
func TestOfOtherBytes(t *testing.T) {
	none(t, "no bytes", "")
	if m, e := wire.Of(nil); e != api.ErrWire || told(m) != told(api.Msg{}) {
		t.Fatalf("Of nil: %d, %s", e, told(m))
	}
	for _, b := range []string{"\x00", "\xa5", "a", "\x01", strings.Repeat("\x00", 17), strings.Repeat("\xff", 300), strings.Repeat("\xa5", 70000), strings.Repeat("\x01", 70000)} {
		none(t, "no frame", b)
		none(t, "no message", framed(b[:min(len(b), api.MaxRecord)]))
	}
	none(t, "a frame of nothing", framed(""))
	for _, m := range samples() {
		none(t, "without a frame", body(m))
		none(t, "a frame in a frame", framed(framed(body(m))))
		none(t, "an item's bytes", framed(itemBytes(plain(1)[0])))
		none(t, "a state's bytes", framed(stateBytes(m.State)))
	}
}

// P15.2: bytes cut at every place, ahead and behind, and with more behind and ahead; of the frame, and of what is in it.
func TestOfOtherLengths(t *testing.T) {
	for _, m := range samples() {
		in := body(m)
		b := framed(in)
		for n := range len(b) {
			none(t, "cut", b[:n])
			none(t, "cut ahead", b[n+1:])
		}
		for n := range len(in) {
			none(t, "cut in the frame", framed(in[:n]))
			as(t, "cut ahead in the frame", framed(in[n+1:]))
		}
		for _, more := range []string{"\x00", "\x01", "\x80", "\xa5", "\xff", b, in, framed(""), strings.Repeat("\x00", 300)} {
			none(t, "more behind", b+more)
			none(t, "more ahead", more+b)
			none(t, "more behind in the frame", framed(in+more))
			as(t, "more ahead in the frame", framed(more+in))
		}
	}
}

// P15.2: one byte changed, at every place, to all others; of the frame, and of what is in it.
func TestOfChangedBytes(t *testing.T) {
	for _, m := range samples() {
		in := body(m)
		b := framed(in)
		for i := range b {
			for _, c := range []byte{b[i] ^ 1, b[i] ^ 0x80, b[i] + 1, b[i] - 1, ^b[i]} {
				none(t, "changed", b[:i]+string([]byte{c})+b[i+1:])
			}
		}
		for i := range in {
			for _, c := range []byte{0, 1, 2, 8, 9, 127, 128, 129, 130, 136, 137, 255, in[i] ^ 1, in[i] ^ 2, in[i] ^ 32, in[i] ^ 0x80, in[i] + 1, in[i] - 1} {
				as(t, "changed in the frame", framed(in[:i]+string([]byte{c})+in[i+1:]))
			}
		}
	}
}

// P15.2: the bytes of messages that Check refuses.
func TestOfWrongMessages(t *testing.T) {
	for _, kind := range kinds() {
		for _, change := range []func(m *api.Msg){
			func(m *api.Msg) { m.Boot = 0 },
			func(m *api.Msg) { m.Kind = 0 },
			func(m *api.Msg) { m.Kind = 9 },
			func(m *api.Msg) { m.Kind += 8 },
			func(m *api.Msg) { m.Kind += 128 },
			func(m *api.Msg) { m.Kind += 256 },
			func(m *api.Msg) { m.Kind += 1 << 32 },
			func(m *api.Msg) { m.Kind = -m.Kind },
			func(m *api.Msg) { m.Kind += math.MinInt },
			func(m *api.Msg) { m.Items = plain(9) },
			func(m *api.Msg) { m.Items = plain(264) },
			func(m *api.Msg) { m.Lasts = lasts(all + 1) },
			func(m *api.Msg) { m.Lasts = make([]api.Last, 2) },
			func(m *api.Msg) { m.Line, m.To = 1, 1 },
			func(m *api.Msg) { m.Line, m.Lasts = 1, lasts(1) },
			func(m *api.Msg) { m.From, m.State = 1, small() },
		} {
			m := full(kind)
			change(&m)
			refuse(t, "refused by Check", m)
		}
		for _, x := range wrongItems() {
			m := full(kind)
			m.Items = append(plain(1), x)
			m.To = m.From + 2
			refuse(t, "a wrong item", m)
		}
		for _, s := range wrongStates() {
			m := full(kind)
			m.State = s
			refuse(t, "a wrong state", m)
		}
	}
}

// P15.2: floats that aren't Canon have the bytes of those that are, which Of tells.
func TestOfUncleanFloats(t *testing.T) {
	for _, x := range []struct{ f, clean float64 }{{minusZero, 0}, {otherNaN, theNaN}} {
		m := full(api.Push)
		m.Items[1].Mut = api.Mut{Kind: api.MutEst, Id: 1, F: x.f}
		refuse(t, "not Canon", m)
		b := framed(body(m))
		m.Items[1].Mut.F = x.clean
		mustPass(t, "Canon", m, b)
		m = full(api.Snap)
		m.State.Tasks[1].Est = x.f
		refuse(t, "not Canon", m)
		b = framed(body(m))
		m.State.Tasks[1].Est = x.clean
		mustPass(t, "Canon", m, b)
	}
}

// P15.2, P15.4: each piece in another form, or another one in its place.
func TestOfOtherPieces(t *testing.T) {
	for _, m := range samples() {
		l := pieces(m)
		for i, piece := range l {
			with := func(p string) string {
				return framed(strings.Join(l[:i], "") + p + strings.Join(l[i+1:], ""))
			}
			mustBe(t, "as it is", with(piece), m)
			for k := 1; k <= 12; k++ {
				as(t, "a longer form", with(string([]byte{byte(128 + k)})+strings.Repeat("\x00", k-1)+piece))
				none(t, "noughts ahead", with(string([]byte{byte(128 + k)})+strings.Repeat("\x00", k)+piece))
			}
			none(t, "no bytes behind", with("\x80"))
			none(t, "nine bytes", with("\x89\x01\x00\x00\x00\x00\x00\x00\x00\x00"))
			for _, n := range numbers() {
				as(t, "another number", with(num(n)))
				as(t, "a number ahead", with(num(n)+piece))
				as(t, "a number behind", with(piece+num(n)))
			}
			as(t, "gone", with(""))
			as(t, "doubled", with(piece+piece))
			as(t, "empty bytes", with(text("")))
			as(t, "as bytes", with(text(piece)))
			for _, n := range []int{0, 1, 2} {
				as(t, "another state", with(text(stateBytes(api.State{Lists: small().Lists[:n]}))))
				as(t, "another item", with(text(itemBytes(plain(3)[n]))))
			}
		}
	}
}

// numbers are small, at the bounds of what they may stand for, and very large.
func numbers() []uint64 {
	return []uint64{0, 1, 2, 3, 4, 5, 6, 7, 8, 9, 10, 20, 21, 60, 61, 127, 128, 255, 256, 257, 264, 1999, all, all + 1, 32767, 59999, 60000, 60001, 65535, 65536, 65537,
		1<<31 - 1, 1 << 31, 1<<32 - 1, 1 << 32, 1<<32 + 1, 1<<32 + 8, 1<<63 - 1, 1 << 63, 1<<63 + 1, greatest - 1, greatest}
}

// P15.2: counts that are more than what follows, or less, or more than may be, of many and of few things; lengths alike.
func TestOfCounts(t *testing.T) {
	head := "\x03\x07\x09\x00\x00"
	one := text(itemBytes(plain(1)[0]))
	nobody := text("\x00\x00")
	mustBe(t, "one item", framed(head+"\x01"+one+"\x00"+nobody), api.Msg{Kind: api.Push, Line: 7, Boot: 9, Items: plain(1)})
	for _, n := range numbers() {
		if n != 1 {
			none(t, "a count of items", framed(head+num(n)+one+"\x00"+nobody))
		}
		none(t, "a count of items alone", framed(head+num(n)))
		none(t, "a length of an item", framed(head+"\x01"+num(n)+strings.Repeat("\x01", 300)))
		if n <= 600 {
			as(t, "so many items", framed(head+num(n)+strings.Repeat(one, int(n))+"\x00"+nobody))
		}
	}
	none(t, "no items", framed(head+"\x00\x00"+nobody))
	head = "\x04\x00\x09\x00\x00\x00"
	for _, n := range numbers() {
		if n != 1 {
			none(t, "a count of Lasts", framed(head+num(n)+"\x05\x01"+nobody))
		}
		none(t, "a count of Lasts alone", framed(head+num(n)))
		none(t, "a count of Lasts, and noughts", framed(head+num(n)+strings.Repeat("\x00", 9000)))
		if n <= 9000 {
			m := api.Msg{Kind: api.Ack, Boot: 9, Lasts: lasts(int(n))}
			as(t, "so many Lasts", framed(body(m)))
		}
	}
	head = "\x08\x00\x09\x00\x00\x00\x00"
	state := stateBytes(small())
	for _, n := range numbers() {
		as(t, "a length of a state", framed(head+num(n)+state))
		none(t, "a length of a state alone", framed(head+num(n)))
		as(t, "a count of lists", framed(head+text(num(n)+state[1:])))
	}
	mustBe(t, "a state", framed(head+text(state)), api.Msg{Kind: api.Snap, Boot: 9, State: small()})
	none(t, "a state cut", framed(head+text(state[:len(state)-1])))
	none(t, "a state and more", framed(head+text(state+"\x00")))
}
