package mutate_test

import (
	"bytes"
	"math"
	"strings"
	"testing"

	"factotum/api"
	"factotum/mutate"
)

// Floats' keys, by hand.
const (
	keyNaN   = "\x00\x00\x00\x00\x00\x00\x00\x00"
	keyBelow = "\x00\x0f\xff\xff\xff\xff\xff\xff"
	keyMinus = "\x3f\xfb\xff\xff\xff\xff\xff\xff" // of -2.5
	key0     = "\x80\x00\x00\x00\x00\x00\x00\x00"
	key1     = "\xbf\xf0\x00\x00\x00\x00\x00\x00"
	keyAbove = "\xff\xf0\x00\x00\x00\x00\x00\x00"
)

// written is a mutation, and its bytes.
type written struct {
	b string
	m api.Mut
}

// byHand has each Kind at least once.
func byHand() []written {
	long, tag := strings.Repeat("~", mostTitle), "0123456789abcdef"
	return []written{
		{"\x01\x03\x00\x04food" + key0 + "\x00", api.Mut{Kind: api.MutList, Id: 3, Text: "food"}},
		{"\x01\x88\xff\xff\xff\xff\xff\xff\xff\xff\x00\x3c" + long + key0 + "\x00", api.Mut{Kind: api.MutList, Id: greatest, Text: long}},
		{"\x02\x7f\x00\x00" + key0 + "\x00", api.Mut{Kind: api.MutDrop, Id: 127}},
		{"\x03\x81\x80\x82\x01\x2c\x01a" + keyMinus + "\x00", api.Mut{Kind: api.MutMake, Id: 128, List: 300, Text: "a", F: -2.5}},
		{"\x03\x01\x02\x02b " + key0 + "\x00", api.Mut{Kind: api.MutMake, Id: 1, List: 2, Text: "b "}},
		{"\x04\x01\x00\x01 " + key0 + "\x00", api.Mut{Kind: api.MutEdit, Id: 1, Text: " "}},
		{"\x05\x01\x00\x00" + key0 + "\x01", api.Mut{Kind: api.MutDone, Id: 1, Flag: true}},
		{"\x05\x01\x00\x00" + key0 + "\x00", api.Mut{Kind: api.MutDone, Id: 1}},
		{"\x06\x02\x03\x00" + keyAbove + "\x00", api.Mut{Kind: api.MutMove, Id: 2, List: 3, F: inf}},
		{"\x07\x02\x00\x00" + keyBelow + "\x00", api.Mut{Kind: api.MutRank, Id: 2, F: -inf}},
		{"\x08\x02\x00\x00" + keyNaN + "\x00", api.Mut{Kind: api.MutEst, Id: 2, F: theNaN}},
		{"\x08\x02\x00\x00" + key1 + "\x00", api.Mut{Kind: api.MutEst, Id: 2, F: 1}},
		{"\x09\x02\x00\x10" + tag + key0 + "\x00", api.Mut{Kind: api.MutTag, Id: 2, Text: tag}},
		{"\x0a\x02\x00\x01-" + key0 + "\x00", api.Mut{Kind: api.MutUntag, Id: 2, Text: "-"}},
		{"\x0b\x83\x01\x00\x00\x00\x00" + key0 + "\x00", api.Mut{Kind: api.MutDelete, Id: 1 << 16}},
		{"\x0c\x00\x05\x00" + key0 + "\x00", api.Mut{Kind: api.MutClear, List: 5}},
		{"\x0d\x00\x85\x01\x00\x00\x00\x00\x00" + key0 + "\x00", api.Mut{Kind: api.MutSpread, List: 1 << 32}},
	}
}

// mustPut asks what Put writes.
func mustPut(t *testing.T, m api.Mut, want string) {
	t.Helper()
	if got := mutate.Put(m); string(got) != want {
		t.Fatalf("Put of %s: %q, not %q", toldMut(m), got, want)
	}
}

// mustBeOf asks what b is, to the bit.
func mustBeOf(t *testing.T, b string, want api.Mut) {
	t.Helper()
	if got, e := mutate.Of([]byte(b)); e != api.OK || toldMut(got) != toldMut(want) {
		t.Fatalf("Of %q: %s, %d, not %s", b, toldMut(got), e, toldMut(want))
	}
}

// mustBeNone asks that b is no mutation.
func mustBeNone(t *testing.T, what, b string) {
	t.Helper()
	if got, e := mutate.Of([]byte(b)); e != api.ErrMut || toldMut(got) != toldMut(api.Mut{}) {
		t.Fatalf("%s: Of %q: %s, %d", what, b, toldMut(got), e)
	}
}

// P11.3: each Kind, there and back.
func TestBytesByHand(t *testing.T) {
	there := map[int]bool{}
	for _, x := range byHand() {
		there[x.m.Kind] = true
		mustCheck(t, "by hand", x.m, api.OK)
		mustPut(t, x.m, x.b)
		mustBeOf(t, x.b, x.m)
	}
	if len(there) != len(kinds()) {
		t.Fatal("there are only the Kinds", there)
	}
}

// P11.3: Put writes also what Check refuses, floats by their Key, and Of refuses all of that but a nought and a NaN, which come back as those that are Canon.
func TestPutOfWrongMutations(t *testing.T) {
	for _, x := range []written{
		{"\x00\x00\x00\x00" + key0 + "\x00", api.Mut{}},
		{"\x0e\x01\x00\x00" + key0 + "\x00", api.Mut{Kind: 14, Id: 1}},
		{"\x81\x80\x01\x00\x00" + key0 + "\x00", api.Mut{Kind: 128, Id: 1}},
		{"\x88\x7f\xff\xff\xff\xff\xff\xff\xff\x01\x00\x00" + key0 + "\x00", api.Mut{Kind: math.MaxInt, Id: 1}},
		{"\x88\xff\xff\xff\xff\xff\xff\xff\xff\x01\x00\x00" + key0 + "\x00", api.Mut{Kind: -1, Id: 1}},
		{"\x88\x80\x00\x00\x00\x00\x00\x00\x00\x01\x00\x00" + key0 + "\x00", api.Mut{Kind: math.MinInt, Id: 1}},
		{"\x02\x00\x00\x00" + key0 + "\x00", api.Mut{Kind: api.MutDrop}},
		{"\x02\x01\x01\x01a" + key1 + "\x01", api.Mut{Kind: api.MutDrop, Id: 1, List: 1, Text: "a", F: 1, Flag: true}},
		{"\x07\x01\x00\x00" + keyNaN + "\x00", api.Mut{Kind: api.MutRank, Id: 1, F: theNaN}},
		{"\x04\x01\x00\x82\x01\x2c" + strings.Repeat("x", 300) + key0 + "\x00", api.Mut{Kind: api.MutEdit, Id: 1, Text: strings.Repeat("x", 300)}},
		{"\x04\x01\x00\x02\xff\x00" + key0 + "\x00", api.Mut{Kind: api.MutEdit, Id: 1, Text: "\xff\x00"}},
	} {
		mustPut(t, x.m, x.b)
		mustBeNone(t, "refused by Check", x.b)
	}
	for _, f := range unclean() {
		m := api.Mut{Kind: api.MutEst, Id: 1, F: f}
		mustCheck(t, "not Canon", m, api.ErrMut)
		key := keyNaN
		m.F = theNaN
		if f == 0 {
			key, m.F = key0, 0
		}
		mustPut(t, api.Mut{Kind: api.MutEst, Id: 1, F: f}, "\x08\x01\x00\x00"+key+"\x00")
		mustBeOf(t, "\x08\x01\x00\x00"+key+"\x00", m)
	}
}

// P11.3: no bytes, bytes cut short at every place, more behind and ahead.
func TestOfOtherLengths(t *testing.T) {
	mustBeNone(t, "no bytes", "")
	if m, e := mutate.Of(nil); e != api.ErrMut || !mutate.Same(m, api.Mut{}) {
		t.Fatalf("Of nil: %s, %d", toldMut(m), e)
	}
	for _, x := range byHand() {
		for n := range len(x.b) {
			mustBeNone(t, "cut short", x.b[:n])
		}
		for _, more := range []string{"\x00", "\x01", "\xff", x.b, strings.Repeat("\x00", 300)} {
			mustBeNone(t, "more behind", x.b+more)
		}
		mustBeNone(t, "more ahead", "\x00"+x.b)
		mustBeNone(t, "more ahead", "\x0d"+x.b)
	}
}

// P11.3: Kinds above 13 and below 1, with what would be right of each Kind.
func TestOfKinds(t *testing.T) {
	for _, x := range byHand() {
		rest := x.b[1:]
		for kind := range 128 {
			b := string([]byte{byte(kind)}) + rest
			m := x.m
			m.Kind = kind
			if mutate.Check(m) == api.OK {
				mustBeOf(t, b, m)
			} else {
				mustBeNone(t, "a Kind", b)
			}
			if kind >= 1 && kind <= 13 {
				mustBeNone(t, "a longer form of a Kind", "\x81"+b)
				mustBeNone(t, "a longer form of a Kind", "\x88\x00\x00\x00\x00\x00\x00\x00"+b)
			}
		}
		for _, kind := range []string{
			"\x81\x80", "\x81\xff", "\x82\x01\x03", "\x83\x01\x00\x03", "\x84\x80\x00\x00\x03", "\x85\x01\x00\x00\x00\x03",
			"\x88\x80\x00\x00\x00\x00\x00\x00\x03", "\x88\xff\xff\xff\xff\xff\xff\xff\xff", "\x89\x01\x00\x00\x00\x00\x00\x00\x00\x03", "\x80", "\xff",
		} {
			mustBeNone(t, "a Kind far above", kind+rest)
		}
	}
}

// P11.3: texts at the bounds and above, of each Kind; P11.1: what Check refuses.
func TestOfTexts(t *testing.T) {
	for _, x := range rows() {
		most := map[string]int{"title": mostTitle, "tag": mostTag}[x.text]
		for _, n := range []int{0, 1, 2, 15, 16, 17, 59, 60, 61, 62, 127, 128, 255, 256, 257, 316, 60000, 65536} {
			m := x.right
			m.Text = strings.Repeat("a", n)
			b := string(mutate.Put(m))
			if n >= 1 && n <= most || n == 0 && most == 0 {
				mustBeOf(t, b, m)
			} else {
				mustBeNone(t, "a text", b)
			}
		}
	}
	for _, n := range []string{"\x3d", "\x7f", "\x81\xff", "\x82\x01\x00", "\x84\xff\xff\xff\xff", "\x88\x80\x00\x00\x00\x00\x00\x00\x00", "\x88\xff\xff\xff\xff\xff\xff\xff\xff"} {
		mustBeNone(t, "a text's length alone", "\x04\x01\x00"+n)
		mustBeNone(t, "a text's length", "\x04\x01\x00"+n+strings.Repeat("a", 300)+key0+"\x00")
	}
}

// P11.3: numbers that aren't in their shortest form, keys that no float has, flags that are neither.
func TestOfOtherForms(t *testing.T) {
	parts := []string{"\x03", "\x01", "\x02", "\x01", "a", key1, "\x00"}
	with := func(at int, part string) string {
		l := append([]string{}, parts...)
		l[at] = part
		return strings.Join(l, "")
	}
	mustBeOf(t, with(5, key1), api.Mut{Kind: api.MutMake, Id: 1, List: 2, Text: "a", F: 1})
	for at := range 4 {
		for k := 1; k <= 12; k++ {
			mustBeNone(t, "a longer form", with(at, string([]byte{byte(128 + k)})+strings.Repeat("\x00", k-1)+parts[at]))
		}
		mustBeNone(t, "no bytes behind", with(at, "\x80"))
	}
	mustBeNone(t, "an Id with noughts ahead", with(1, "\x82\x00\x80"))
	mustBeNone(t, "an Id of nine bytes", with(1, "\x89\x01\x00\x00\x00\x00\x00\x00\x00\x00"))
	for _, key := range []string{
		"\x7f\xff\xff\xff\xff\xff\xff\xff", // what would be the key of a nought with a sign
		"\x00\x00\x00\x00\x00\x00\x00\x01", "\x00\x0f\xff\xff\xff\xff\xff\xfe", "\xff\xf0\x00\x00\x00\x00\x00\x01", "\xff\xff\xff\xff\xff\xff\xff\xff",
	} {
		mustBeNone(t, "a key that no float has", with(5, key))
	}
	mustBeNone(t, "a Rank that is a NaN", with(5, keyNaN))
	for c := 1; c < 256; c++ {
		mustBeNone(t, "a flag that may not be", with(6, string([]byte{byte(c)})))
		if b := "\x05\x01\x00\x00" + key0 + string([]byte{byte(c)}); c > 1 {
			mustBeNone(t, "a flag that is neither", b)
		}
	}
}

// P11.3: of all that Check passes Of of Put tells it, to the bit; of all that it refuses there is none, unless it is the F's bits alone.
func TestThereAndBack(t *testing.T) {
	passed := 0
	for _, x := range rows() {
		tries(x, func(m api.Mut, err api.Errno) {
			b := string(mutate.Put(m))
			if err == api.OK {
				passed++
				mustBeOf(t, b, m)
				return
			}
			if m.F == 0 {
				m.F = 0
			} else if m.F != m.F {
				m.F = theNaN
			}
			if mutate.Check(m) == api.OK {
				mustBeOf(t, b, m)
			} else {
				mustBeNone(t, "refused by Check", b)
			}
		})
	}
	if passed < 500 {
		t.Fatal("Check passed", passed, "alone")
	}
}

// P11.3: bytes with one of them changed, left out or doubled are none, or those of another mutation, which Check passes.
func TestOfChangedBytes(t *testing.T) {
	found := 0
	for _, x := range byHand() {
		look := func(b string) {
			t.Helper()
			m, e := mutate.Of([]byte(b))
			if e != api.OK {
				mustBeNone(t, "changed bytes", b)
				return
			}
			if mutate.Check(m) != api.OK || string(mutate.Put(m)) != b || b != x.b && mutate.Same(m, x.m) {
				t.Fatalf("Of %q: %s", b, toldMut(m))
			}
			found++
		}
		for at := range len(x.b) {
			for c := range 256 {
				look(replaced(x.b, at, byte(c)))
			}
			look(x.b[:at] + x.b[at+1:])
			look(x.b[:at] + x.b[at:at+1] + x.b[at:])
		}
	}
	if found < 5000 {
		t.Fatal("only", found, "were mutations")
	}
}

// P1, P11.3: whatever the bytes are, Of ends, and tells what Put writes so, or nothing.
func TestOfAnyBytes(t *testing.T) {
	r := random(5)
	for range 50000 {
		b := make([]byte, r(40))
		for i := range b {
			b[i] = byte(oneOf(r, []int{0, 1, 2, 3, 5, 13, 45, 97, 128, 129, 136, 255, r(256)}))
		}
		m, e := mutate.Of(b)
		if e == api.OK && (mutate.Check(m) != api.OK || string(mutate.Put(m)) != string(b)) || e != api.OK && (e != api.ErrMut || toldMut(m) != toldMut(api.Mut{})) {
			t.Fatalf("Of %q: %s, %d", b, toldMut(m), e)
		}
	}
}

// P2: what Put and Of tell is new memory, and what lies behind the bytes is neither read nor changed.
func TestBytesAreNotShared(t *testing.T) {
	for _, x := range byHand() {
		a, b := mutate.Put(x.m), mutate.Put(x.m)
		clear(b[:cap(b)])
		if string(a) != x.b {
			t.Fatalf("Put of %s: one answer shares memory with another: %q", toldMut(x.m), a)
		}
		room := []byte(x.b + "behind")
		m, e := mutate.Of(room[:len(x.b)])
		if e != api.OK || !bytes.Equal(room, []byte(x.b+"behind")) {
			t.Fatalf("Of %q: %d, and what was handed in is %q", x.b, e, room)
		}
		clear(room)
		if toldMut(m) != toldMut(x.m) {
			t.Fatalf("Of %q: what is told hangs on what was handed in: %s", x.b, toldMut(m))
		}
	}
}

// mustBeSame asks Same of both, either way round.
func mustBeSame(t *testing.T, a, b api.Mut, want bool) {
	t.Helper()
	if mutate.Same(a, b) != want || mutate.Same(b, a) != want {
		t.Fatalf("Same of %s and %s: %t", toldMut(a), toldMut(b), !want)
	}
}

// P11.3: Same of mutations that are alike, and that differ in one field each, whether they are right or not.
func TestSame(t *testing.T) {
	base := api.Mut{Kind: 3, Id: 7, List: 8, Text: "a", F: 1, Flag: true}
	for _, m := range []api.Mut{{}, base} {
		mustBeSame(t, m, m, true)
		for _, change := range []func(m *api.Mut){
			func(m *api.Mut) { m.Kind = 4 }, func(m *api.Mut) { m.Kind = -3 }, func(m *api.Mut) { m.Kind += 1 << 32 },
			func(m *api.Mut) { m.Id = 9 }, func(m *api.Mut) { m.Id += 1 << 32 }, func(m *api.Mut) { m.Id, m.List = 8, 7 },
			func(m *api.Mut) { m.List = 9 }, func(m *api.Mut) { m.List += 1 << 32 },
			func(m *api.Mut) { m.Text = "b" }, func(m *api.Mut) { m.Text += "a" }, func(m *api.Mut) { m.Text += "\x00" },
			func(m *api.Mut) { m.F = 2 }, func(m *api.Mut) { m.F = math.Nextafter(m.F, inf) }, func(m *api.Mut) { m.F = -1 }, func(m *api.Mut) { m.F = theNaN },
			func(m *api.Mut) { m.F = inf }, func(m *api.Mut) { m.Flag = !m.Flag },
		} {
			other := m
			change(&other)
			mustBeSame(t, m, other, false)
			mustBeSame(t, other, other, true)
		}
	}
	for i, x := range rows() {
		for j, y := range rows() {
			mustBeSame(t, x.right, y.right, i == j)
		}
	}
}

// P11.3: Same of floats of all kinds: all noughts are one, all NaNs are one, others are their bits.
func TestSameOfFloats(t *testing.T) {
	all := append(append(numbers(), theNaN), unclean()...)
	for _, f := range all {
		for _, g := range all {
			a, b := api.Mut{Kind: api.MutEst, Id: 1, F: f}, api.Mut{Kind: api.MutEst, Id: 1, F: g}
			mustBeSame(t, a, b, f == g || f != f && g != g)
			b.Id = 2
			mustBeSame(t, a, b, false)
		}
	}
}
