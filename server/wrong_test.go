package server_test

import (
	"fmt"
	"slices"
	"strings"
	"testing"

	"factotum/api"
	"factotum/disk"
	"factotum/server"
	"factotum/wire"
)

// mustBeWrong asks for ErrStore of a store that has these keys, and that nothing is written.
func mustBeWrong(t *testing.T, what string, l ...api.Put) {
	t.Helper()
	d := written(t, 300, l...)
	d.Arm(0)
	for range 2 {
		mustNotOpen(t, what, d, api.ErrStore)
	}
	if d.Dead() {
		t.Fatalf("%s: something is written", what)
	}
}

// mustSpoil asks so of the key alone, and beside all that a right store has.
func mustSpoil(t *testing.T, x api.Put) {
	t.Helper()
	what := fmt.Sprintf("%q with %q", x.Key, x.Val)
	mustBeWrong(t, what, x)
	mustBeWrong(t, what+" beside others", append(rich().puts(), x)...)
}

// P18.1: a key that is none of a Server's: an unknown one, or one of a wrong length, with whatever value.
func TestWrongKeys(t *testing.T) {
	eight := strings.Repeat("\x00", 7) + "\x05"
	l := []string{"", "\x00", "a", "c", "d", "e", "l", "z", "\xff", "B", "bb", "be", "b\x00", "what", strings.Repeat("d", 9) + "d"}
	for _, letter := range []string{"a", "b", "c", "f", "k", "m", "o", "D", "E", "L", "\x00", "\xff"} {
		l = append(l, letter+eight)
	}
	for _, letter := range []string{"d", "e", "l"} {
		for n := range 8 {
			l = append(l, letter+eight[:n], letter+eight[n+1:])
		}
		l = append(l, letter+eight+"\x00", letter+"\x00"+eight, letter+eight+eight, letter+strings.ToUpper(letter)+eight)
	}
	for _, k := range l {
		for _, val := range [][]byte{nil, number(0), number(1), number(300), based(5, small()), wire.PutItem(item(1, 1))} {
			mustSpoil(t, api.Put{Key: k, Val: val})
		}
	}
}

// notNumbers are bytes that are N of no number.
func notNumbers() [][]byte {
	l := [][]byte{
		{}, {0, 0}, {1, 0}, {1, 1}, {5, 255}, {128}, {128, 0}, {128, 5}, {129}, {129, 5}, {129, 127}, {129, 200, 0}, {129, 200, 1}, {130, 1}, {130, 0, 200}, {130, 1, 44, 0},
		{136}, {136, 0, 1, 1, 1, 1, 1, 1, 1}, {137, 1, 1, 1, 1, 1, 1, 1, 1, 1}, {255}, wire.PutItem(item(1, 1)), based(1, small()), []byte("what"),
	}
	for _, n := range []uint64{128, 1 << 16, 1 << 40, greatest} {
		b := number(n)
		for i := range b {
			l = append(l, b[:i])
		}
		l = append(l, append(b, 0), append(number(n), b...))
	}
	return l
}

// P18.1: a last number, or a boot, that is no number, or has bytes behind it.
func TestWrongNumbers(t *testing.T) {
	for _, letter := range []string{"d", "l"} {
		for _, n := range []uint64{0, 1, 5, greatest} {
			for _, val := range notNumbers() {
				mustSpoil(t, api.Put{Key: key(letter, n), Val: val})
			}
		}
	}
}

// states are some that aren't Right, as task.Put would write them.
func states() []api.State {
	var l []api.State
	for _, change := range []func(s *api.State){
		func(s *api.State) { s.Lists = s.Lists[1:] },
		func(s *api.State) { slices.Reverse(s.Lists) },
		func(s *api.State) { slices.Reverse(s.Tasks) },
		func(s *api.State) { s.Tasks[0].Title = "" },
		func(s *api.State) { s.Tasks[0].Tags = []string{"d", "b"} },
		func(s *api.State) { s.Lists[0].Id = 0 },
	} {
		s := small()
		change(&s)
		l = append(l, s)
	}
	return l
}

// P18.1: a "b" without its state, with one that isn't task.Put's, with bytes behind it, or with no number that a Base may be.
func TestWrongBases(t *testing.T) {
	wrong := func(val []byte) { t.Helper(); mustSpoil(t, api.Put{Key: "b", Val: val}) }
	for _, n := range []uint64{0, 5, 300, mostGone} {
		right := based(n, small())
		for i := range right {
			wrong(right[:i])
		}
		for _, more := range [][]byte{{0}, {0, 0}, {255}, number(300), right} {
			wrong(slices.Concat(right, more))
		}
		wrong(slices.Concat(number(n), []byte("\x00")))
		wrong(slices.Concat(number(n), []byte("\x01\x00")))
		wrong(slices.Concat(number(n), []byte("\x03\x00\x00\x00")))
		wrong(slices.Concat(number(n), []byte("\x02\x00\x01")))
		// The state without its length, and with a wrong one.
		wrong(slices.Concat(number(n), right[len(number(n))+1:]))
		for _, s := range states() {
			wrong(based(n, s))
		}
	}
	for _, val := range notNumbers() {
		wrong(slices.Concat(val, []byte("\x02\x00\x00")))
	}
	for _, n := range []uint64{mostGone + 1<<31, mostGone + 1<<31 + 1, mostGone + 1<<32, 2 * mostGone, 1 << 62, 1<<63 - 1, 1 << 63, greatest - 1, greatest} {
		wrong(based(n, api.State{}))
		wrong(based(n, small()))
	}
}

// P18.1: items ahead of the Base, or with a gap, each way.
func TestWrongIndices(t *testing.T) {
	for _, base := range []uint64{0, 1, 5, 255, 300, 1 << 32, mostGone} {
		b := api.Put{Key: "b", Val: based(base, small())}
		for _, l := range [][]uint64{
			{base + 1}, {base + 2}, {base - 1}, {base, base + 2}, {base + 1, base + 2}, {base, base + 1, base + 3}, {base, base + 1, base + 2, base + 4},
			{base - 1, base}, {base - 1, base, base + 1}, {base - 2}, {0, base + 2}, {base, greatest}, {greatest}, {base, base + 256}, {base + 1<<8}, {base + 1<<56}, {base + 1<<63},
		} {
			puts := []api.Put{b}
			for i, index := range l {
				puts = append(puts, api.Put{Key: key("e", index), Val: wire.PutItem(item(9, uint64(i)+1))})
			}
			mustBeWrong(t, fmt.Sprintf("%d behind %d", l, base), puts...)
			if base == 0 {
				mustBeWrong(t, fmt.Sprintf("%d behind none", l), puts[1:]...)
			}
		}
	}
	// Where there is no Base, it is 0.
	for _, index := range []uint64{1, 2, 300, greatest} {
		mustBeWrong(t, "no Base", api.Put{Key: key("e", index), Val: wire.PutItem(item(9, 1))})
	}
}

// P18.1: an item's bytes that are no item's.
func TestWrongItems(t *testing.T) {
	wrong := func(val []byte) {
		t.Helper()
		for _, l := range [][]api.Put{nil, rich().puts()} {
			index := uint64(0)
			if l != nil {
				index = rich().version()
			}
			mustBeWrong(t, fmt.Sprintf("item %q", val), append(l, api.Put{Key: key("e", index), Val: val})...)
			// A right one behind it doesn't help.
			mustBeWrong(t, fmt.Sprintf("item %q", val), append(l, api.Put{Key: key("e", index), Val: val}, api.Put{Key: key("e", index+1), Val: wire.PutItem(item(9, 9))})...)
		}
	}
	right := wire.PutItem(item(9, 300))
	for i := range right {
		wrong(right[:i])
	}
	wrong(append(slices.Clone(right), 0))
	wrong(append(slices.Clone(right), right...))
	wrong(wire.PutItem(item(0, 1)))
	wrong(wire.PutItem(item(1, 0)))
	wrong(based(5, small()))
	for _, m := range []api.Mut{{}, {Kind: 14}, {Kind: api.MutList}, {Kind: api.MutList, Id: 1}, {Kind: api.MutDrop, Id: 1, Text: "l"}, {Kind: api.MutEdit, Id: 1, Text: "\n"}} {
		wrong(wire.PutItem(api.Item{Ident: 1, Id: 1, Mut: m}))
	}
}

// P18.1: each value of a right store, cut off anywhere, or with a byte behind it, or under each other's key.
func TestWrongValues(t *testing.T) {
	l := rich().puts()
	for i, x := range l {
		for n := range x.Val {
			puts := slices.Clone(l)
			puts[i].Val = x.Val[:n]
			mustBeWrong(t, fmt.Sprintf("%q cut off", x.Key), puts...)
			puts[i].Val = append(slices.Clone(x.Val), byte(n))
			mustBeWrong(t, fmt.Sprintf("%q with a byte", x.Key), puts...)
		}
		for _, y := range l {
			// Items may be one another's, and so may numbers.
			if x.Key[0] == y.Key[0] || strings.Contains("dl", x.Key[:1]) && strings.Contains("dl", y.Key[:1]) {
				continue
			}
			puts := slices.Clone(l)
			puts[i].Val = y.Val
			mustBeWrong(t, fmt.Sprintf("%q with what %q has", x.Key, y.Key), puts...)
		}
	}
}

// P1: Open of stores of anything ends, and with an error there is no Server.
func TestOpenOfAnything(t *testing.T) {
	r := random(1)
	opened := 0
	for range 4000 {
		var l []api.Put
		for range r(4) {
			k := key(oneOf(r, "b", "d", "e", "l", "x"), uint64(r(3)))
			val := oneOf(r, number(uint64(r(300))), wire.PutItem(item(1, uint64(r(3)))), based(uint64(r(2)), small()), nil)
			if r(3) == 0 {
				k = oneOf(r, "b", k[:r(len(k))], k+"x")
			}
			if r(3) == 0 {
				val = slices.Concat(val[:r(len(val)+1)], number(uint64(r(300))))
			}
			l = append(l, api.Put{Key: k, Val: val})
		}
		s, e := server.Open(written(t, 100, l...))
		if (s == nil) != (e != api.OK) || e != api.OK && e != api.ErrStore {
			t.Fatalf("%v: %t, %d", l, s != nil, e)
		}
		if s != nil {
			opened++
			s.Do(hello(1, 400))
			s.Do(push(1, 400, item(1, 1), item(2, 1)))
			s.Do(pull(1, 400, 0))
			s.Compact(uint64(r(3)))
		}
	}
	if opened < 300 || opened > 3000 {
		t.Errorf("%d are opened", opened)
	}
	for range 2000 {
		d := disk.New(r(12))
		for at := range d.Size() {
			b := make([]byte, r(65))
			for i := range b {
				b[i] = byte(r(256))
			}
			d.Write(at, b)
		}
		s, e := server.Open(d)
		if (s == nil) != (e != api.OK) {
			t.Fatal(s != nil, e)
		}
	}
}
