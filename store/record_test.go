package store_test

import (
	"bytes"
	"slices"
	"strings"
	"testing"

	"factotum/api"
	"factotum/store"
)

// mustRecord asks for the record's bytes, and that Of tells what they are of.
func mustRecord(t *testing.T, want string, all bool, l ...api.Put) {
	t.Helper()
	if got := store.Record(all, l...); string(got) != want {
		t.Fatalf("Record: %q, not %q", got, want)
	}
	mustBeOf(t, want, all, l...)
}

// mustBeOf asks what b is a record of: Gone ones without a Val.
func mustBeOf(t *testing.T, b string, all bool, l ...api.Put) {
	t.Helper()
	is, got, e := store.Of([]byte(b))
	if e != api.OK || is != all || !slices.EqualFunc(got, l, samePut) {
		t.Fatalf("Of %q: %t, %v, %d, not %t, %v", b, is, got, e, all, l)
	}
}

func samePut(a, b api.Put) bool {
	if b.Gone {
		b.Val = nil
	}
	return a.Key == b.Key && a.Gone == b.Gone && bytes.Equal(a.Val, b.Val)
}

// mustBeNone asks that b is no record.
func mustBeNone(t *testing.T, what, b string) {
	t.Helper()
	all, l, e := store.Of([]byte(b))
	if all || len(l) != 0 || e != api.ErrStore {
		t.Fatalf("%s: Of: %t, %v, %d", what, all, l, e)
	}
}

// P8.1: records written out by hand, of all and of not all, and what they are of.
func TestRecordsWrittenOut(t *testing.T) {
	mustRecord(t, "\x00\x00", false)
	mustRecord(t, "\x01\x00", true)
	mustRecord(t, "\x00\x01\x01a\x00\x011", false, put("a", "1"))
	mustRecord(t, "\x01\x01\x01a\x00\x011", true, put("a", "1"))
	mustRecord(t, "\x00\x01\x04milk\x01\x00", false, gone("milk"))
	mustRecord(t, "\x01\x01\x04milk\x01\x00", true, gone("milk"))
	mustRecord(t, "\x00\x01\x04milk\x01\x00", false, api.Put{Key: "milk", Val: []byte("two"), Gone: true})
	mustRecord(t, "\x00\x03\x04milk\x00\x03two\x01b\x01\x00\x04milk\x00\x00", false, put("milk", "two"), api.Put{Key: "b", Val: []byte("x"), Gone: true}, put("milk", ""))
	mustRecord(t, "\x01\x02\x01z\x00\x00\x01a\x00\x00", true, put("z", ""), put("a", ""))
	mustRecord(t, "\x00\x02\x00\x00\x00\x00\x01\x00", false, put("", ""), gone(""))
	mustRecord(t, "\x00\x01\x00\x00\x02\x00\xff", false, put("", "\x00\xff"))
	mustRecord(t, "\x00\x01\x03\xff\x00\x80\x00\x01\x00", false, put("\xff\x00\x80", "\x00"))
	x, y := strings.Repeat("x", 128), strings.Repeat("y", 300)
	mustRecord(t, "\x00\x01\x81\x80"+x+"\x00\x82\x01\x2c"+y, false, put(x, y))
	mustRecord(t, "\x00\x01\x7f"+x[1:]+"\x00\x81\xff"+y[45:], false, put(x[1:], y[45:]))
}

// P8.1: many Puts, and as many as may be: how many there are is told in one byte, two, three.
func TestRecordsOfManyPuts(t *testing.T) {
	for _, n := range []int{2, 126, 127, 128, 129, 255, 256, 257, 4095, most} {
		for _, all := range []bool{false, true} {
			l := shorts(0, n)
			l[n/2] = gone("milk")
			l[n-1] = put("", text(n%300, n))
			mustRecord(t, recorded(all, l...), all, l...)
		}
	}
	mustRecord(t, "\x00\x82\x10\x00"+strings.Repeat("\x00\x01\x00", most), false, slices.Repeat(puts(gone("")), most)...)
}

// P8.1: more Puts than a record may have: Record writes them, Of doesn't take them.
func TestRecordsOfTooManyPuts(t *testing.T) {
	for _, n := range []int{most + 1, most + 2, 1<<16 - 1, 1 << 16, 1<<16 + 1} {
		for _, all := range []bool{false, true} {
			l := slices.Repeat(puts(put("", "")), n)
			b := string(store.Record(all, l...))
			if want := flag(all) + number(n) + strings.Repeat("\x00\x00\x00", n); b != want {
				t.Fatalf("Record of %d Puts: %d bytes, not %d", n, len(b), len(want))
			}
			mustBeNone(t, "too many Puts", b)
		}
	}
	mustBeNone(t, "a number of Puts without them", "\x00\x82\x10\x01")
	mustBeNone(t, "the greatest number of Puts", "\x00\x88\xff\xff\xff\xff\xff\xff\xff\xff")
}

// P8.1: keys and values of 60,000 bytes, and of one more; a record may be longer than a wal takes.
func TestRecordsOfLongKeysAndValues(t *testing.T) {
	for _, n := range []int{long - 1, long} {
		l := puts(put(text(n, 1), text(long, 2)), put("milk", text(n, 3)), gone(text(n, 4)), put(text(long, 5), ""))
		mustRecord(t, recorded(true, l...), true, l...)
	}
	for _, n := range []int{long + 1, long + 2, 1<<16 - 1, 1 << 16, 1<<16 + 1} {
		for _, p := range []api.Put{put(text(n, 1), ""), put("", text(n, 1)), gone(text(n, 1))} {
			b := recorded(false, put("milk", "two"), p)
			if got := store.Record(false, put("milk", "two"), p); string(got) != b {
				t.Fatalf("Record of %d bytes: %d bytes, not %d", n, len(got), len(b))
			}
			mustBeNone(t, "too long", b)
		}
	}
}

// samples are some records.
func samples() []string {
	return []string{
		recorded(false), recorded(true), recorded(false, put("a", "1")), recorded(true, gone("milk")),
		recorded(true, put("milk", "two"), gone("b"), put("", ""), put(text(130, 1), text(300, 2)), gone("")),
		recorded(false, shorts(0, 200)...),
	}
}

// P8.1: no bytes, a record cut off at every place, one with more behind, or ahead.
func TestOfOtherLengths(t *testing.T) {
	for _, b := range []string{"", "\x00", "\x01"} {
		mustBeNone(t, "too few bytes", b)
	}
	if all, l, e := store.Of(nil); all || len(l) != 0 || e != api.ErrStore {
		t.Errorf("Of nil: %t, %v, %d", all, l, e)
	}
	for _, b := range samples() {
		for n := range len(b) {
			mustBeNone(t, "cut off", b[:n])
		}
		for _, more := range []string{"\x00", "\x01", "x", b} {
			mustBeNone(t, "more behind", b+more)
		}
		mustBeNone(t, "more ahead", "\x02"+b)
	}
}

// P8.1: flags that are neither, and a Gone one with a Val.
func TestOfWrongFlags(t *testing.T) {
	for x := 2; x < 256; x++ {
		other := string([]byte{byte(x)})
		mustBeNone(t, "the flag of all", other+"\x00")
		mustBeNone(t, "the flag of all", other+"\x01\x01a\x00\x011")
		mustBeNone(t, "the flag of Gone", "\x00\x01\x01a"+other+"\x00")
		mustBeNone(t, "the flag of Gone", "\x00\x02\x01b\x00\x00\x01a"+other+"\x011")
	}
	mustBeNone(t, "a Gone one with a Val", "\x00\x01\x01a\x01\x011")
	mustBeNone(t, "a Gone one with a Val", "\x01\x01\x01a\x01\x01\x00")
	mustBeNone(t, "a Gone one with a Val", "\x01\x03\x01b\x01\x00\x01a\x01\x02xy\x01c\x00\x00")
	mustBeNone(t, "a Gone one with a long Val", "\x00\x01\x00\x01"+number(long)+text(long, 1))
}

// P8.1: numbers that aren't in their shortest form, in every place of one.
func TestOfOtherForms(t *testing.T) {
	mustBeNone(t, "how many", "\x00\x81\x00")
	mustBeNone(t, "how many", "\x01\x81\x01\x01a\x00\x011")
	mustBeNone(t, "how many", "\x01\x82\x00\x80"+strings.Repeat("\x00\x00\x00", 128))
	mustBeNone(t, "a key's length", "\x01\x01\x81\x01a\x00\x011")
	mustBeNone(t, "a key's length", "\x01\x01\x82\x00\x01a\x00\x011")
	mustBeNone(t, "a value's length", "\x01\x01\x01a\x00\x81\x011")
	mustBeNone(t, "a value's length", "\x01\x01\x01a\x00\x82\x00\x80"+strings.Repeat("1", 128))
	mustBeNone(t, "a Gone one's length", "\x01\x01\x01a\x01\x81\x00")
	mustBeNone(t, "more than eight bytes", "\x01\x01\x01a\x01\x89\x00\x00\x00\x00\x00\x00\x00\x00\x00")
}

// P8.1: of all short bytes those are records that Record makes of what Of tells.
func TestOfAllShortBytes(t *testing.T) {
	bytesOf := []byte{0, 1, 2, 3, 127, 128, 129, 130, 255}
	count := 0
	var look func(b []byte)
	look = func(b []byte) {
		all, l, e := store.Of(b)
		switch e {
		case api.OK:
			count++
			if recorded(all, l...) != string(b) {
				t.Fatalf("Of %q: %t, %v", b, all, l)
			}
		default:
			mustBeNone(t, "short bytes", string(b))
		}
		if len(b) < 6 {
			for _, x := range bytesOf {
				look(append(b[:len(b):len(b)], x))
			}
		}
	}
	look(nil)
	// By hand, of each flag: 1 of no Puts; of one 2 without key and Val, 9 with a Val of one byte, and with a key of one byte 18.
	if want := 2 * (1 + 2 + 9 + 18); count != want {
		t.Errorf("%d records, not %d", count, want)
	}
}

// P2: neither shares memory with what was given, nor with another answer, nor changes it; what lies behind isn't read.
func TestRecordsAreNotShared(t *testing.T) {
	given := []byte("two and more")
	list := puts(api.Put{Key: "milk", Val: given[:3]}, api.Put{Key: "b", Val: given[4:7], Gone: true}, put("behind", "x"))
	b := store.Record(true, list[:2]...)
	want := recorded(true, put("milk", "two"), gone("b"))
	if string(given) != "two and more" || !samePut(list[2], put("behind", "x")) || string(list[1].Val) != "and" {
		t.Fatal("what was given is changed")
	}
	clear(given)
	clear(list)
	if string(b) != want {
		t.Fatalf("Record: %q, not %q", b, want)
	}
	room := append([]byte(recorded(false, put("milk", "two"), put("b", "one"))), "behind"...)
	n := len(room) - len("behind")
	_, l, _ := store.Of(room[:n])
	_, m, _ := store.Of(room[:n])
	if string(room[n:]) != "behind" {
		t.Fatal("what lies behind is changed")
	}
	clear(room)
	clear(l[0].Val[:cap(l[0].Val)])
	_ = append(l[0].Val, "more"...)
	if string(l[1].Val) != "one" || string(m[0].Val) != "two" || string(m[1].Val) != "one" {
		t.Fatalf("Of: %v, %v", l, m)
	}
}
