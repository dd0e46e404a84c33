package codec_test

import (
	"bytes"
	"math"
	"slices"
	"strings"
	"testing"

	"factotum/api"
	"factotum/codec"
	"factotum/flt"
)

const mostPart = 65536

var (
	inf       = math.Inf(1)
	minusZero = math.Copysign(0, -1)
	allKinds  = []int{api.PartN, api.PartI, api.PartF, api.PartB, api.PartFlag}
)

// numbers has what N writes of numbers: at every count of bytes the least and the greatest that has it.
var numbers = []struct {
	n uint64
	b string
}{
	{0, "\x00"}, {1, "\x01"}, {5, "\x05"}, {126, "\x7e"}, {127, "\x7f"},
	{128, "\x81\x80"}, {129, "\x81\x81"}, {254, "\x81\xfe"}, {255, "\x81\xff"},
	{256, "\x82\x01\x00"}, {300, "\x82\x01\x2c"}, {1<<16 - 1, "\x82\xff\xff"},
	{1 << 16, "\x83\x01\x00\x00"}, {1<<24 - 1, "\x83\xff\xff\xff"},
	{1 << 24, "\x84\x01\x00\x00\x00"}, {1<<32 - 1, "\x84\xff\xff\xff\xff"},
	{1 << 32, "\x85\x01\x00\x00\x00\x00"}, {1<<40 - 1, "\x85\xff\xff\xff\xff\xff"},
	{1 << 40, "\x86\x01\x00\x00\x00\x00\x00"}, {1<<48 - 1, "\x86\xff\xff\xff\xff\xff\xff"},
	{1 << 48, "\x87\x01\x00\x00\x00\x00\x00\x00"}, {1<<56 - 1, "\x87\xff\xff\xff\xff\xff\xff\xff"},
	{1 << 56, "\x88\x01\x00\x00\x00\x00\x00\x00\x00"},
	{0x0102030405060708, "\x88\x01\x02\x03\x04\x05\x06\x07\x08"},
	{1 << 63, "\x88\x80\x00\x00\x00\x00\x00\x00\x00"},
	{math.MaxUint64 - 1, "\x88\xff\xff\xff\xff\xff\xff\xff\xfe"}, {math.MaxUint64, "\x88\xff\xff\xff\xff\xff\xff\xff\xff"},
}

var signed = []struct {
	n int64
	b string
}{
	{0, "\x00"}, {-1, "\x01"}, {1, "\x02"}, {-2, "\x03"}, {2, "\x04"}, {-3, "\x05"},
	{63, "\x7e"}, {-64, "\x7f"}, {64, "\x81\x80"}, {-65, "\x81\x81"}, {127, "\x81\xfe"}, {-128, "\x81\xff"},
	{128, "\x82\x01\x00"}, {-129, "\x82\x01\x01"},
	{math.MaxInt32, "\x84\xff\xff\xff\xfe"}, {math.MinInt32, "\x84\xff\xff\xff\xff"},
	{math.MaxInt64 - 1, "\x88\xff\xff\xff\xff\xff\xff\xff\xfc"}, {math.MinInt64 + 1, "\x88\xff\xff\xff\xff\xff\xff\xff\xfd"},
	{math.MaxInt64, "\x88\xff\xff\xff\xff\xff\xff\xff\xfe"}, {math.MinInt64, "\x88\xff\xff\xff\xff\xff\xff\xff\xff"},
}

var floats = []struct {
	f float64
	b string
}{
	{math.NaN(), "\x00\x00\x00\x00\x00\x00\x00\x00"},
	{math.Float64frombits(0xfff8000000000123), "\x00\x00\x00\x00\x00\x00\x00\x00"},
	{math.Float64frombits(0x7ff0000000000001), "\x00\x00\x00\x00\x00\x00\x00\x00"},
	{-inf, "\x00\x0f\xff\xff\xff\xff\xff\xff"},
	{-math.MaxFloat64, "\x00\x10\x00\x00\x00\x00\x00\x00"},
	{-2.5, "\x3f\xfb\xff\xff\xff\xff\xff\xff"},
	{-math.SmallestNonzeroFloat64, "\x7f\xff\xff\xff\xff\xff\xff\xfe"},
	{minusZero, "\x80\x00\x00\x00\x00\x00\x00\x00"},
	{0, "\x80\x00\x00\x00\x00\x00\x00\x00"},
	{math.SmallestNonzeroFloat64, "\x80\x00\x00\x00\x00\x00\x00\x01"},
	{1, "\xbf\xf0\x00\x00\x00\x00\x00\x00"},
	{math.MaxFloat64, "\xff\xef\xff\xff\xff\xff\xff\xff"},
	{inf, "\xff\xf0\x00\x00\x00\x00\x00\x00"},
}

// lengths are those of texts at which N of them has one byte more, or the bound of Parts is.
func lengths() []int { return []int{0, 1, 2, 127, 128, 255, 256, 65535, mostPart} }

// head is what B writes ahead of so many bytes, by hand.
func head(n int) string {
	switch {
	case n < 128:
		return string([]byte{byte(n)})
	case n < 256:
		return string([]byte{129, byte(n)})
	case n < 65536:
		return string([]byte{130, byte(n >> 8), byte(n)})
	}
	return string([]byte{131, byte(n >> 16), byte(n >> 8), byte(n)})
}

func written(f func(w *codec.Writer)) string {
	w := &codec.Writer{}
	f(w)
	return string(w.Bytes())
}

// bits tells floats from each other where == doesn't: NaNs, noughts.
func bits(f float64) uint64 { return math.Float64bits(f) }

func samePart(a, b api.Part) bool {
	return a.Kind == b.Kind && a.N == b.N && a.I == b.I && bits(a.F) == bits(b.F) && bytes.Equal(a.B, b.B) && a.Is == b.Is
}

// P2.1: numbers at every count of bytes and right beside it.
func TestWritesNumbers(t *testing.T) {
	all := ""
	var l []uint64
	for _, x := range numbers {
		if got := written(func(w *codec.Writer) { w.N(x.n) }); got != x.b {
			t.Errorf("N(%d): %x, not %x", x.n, got, x.b)
		}
		all, l = all+x.b, append(l, x.n)
	}
	if got := written(func(w *codec.Writer) { w.N(l...) }); got != all {
		t.Errorf("N of all: %x, not %x", got, all)
	}
	if got := written(func(w *codec.Writer) { w.N(); w.N(nil...) }); got != "" {
		t.Errorf("N of none: %x", got)
	}
}

// P2.1: signed numbers, among them the least and the greatest.
func TestWritesSigned(t *testing.T) {
	for _, x := range signed {
		if got := written(func(w *codec.Writer) { w.I(x.n) }); got != x.b {
			t.Errorf("I(%d): %x, not %x", x.n, got, x.b)
		}
	}
}

// P2.1: floats at their edges.
func TestWritesFloats(t *testing.T) {
	for _, x := range floats {
		if got := written(func(w *codec.Writer) { w.F(x.f) }); got != x.b {
			t.Errorf("F(%v): %x, not %x", x.f, got, x.b)
		}
	}
}

// P2.1: no bytes and many.
func TestWritesBytes(t *testing.T) {
	for _, n := range append(lengths(), mostPart+1, 1<<20) {
		text := strings.Repeat("\xffab", n/3+1)[:n]
		if got := written(func(w *codec.Writer) { w.B([]byte(text)) }); got != head(n)+text {
			t.Errorf("B of %d bytes: %d bytes, beginning %x", n, len(got), got[:min(8, len(got))])
		}
	}
	if got := written(func(w *codec.Writer) { w.B(nil) }); got != "\x00" {
		t.Errorf("B of nil: %x", got)
	}
}

// P2.1: flags; and Bytes is all that was written, again and again.
func TestWritesOneBehindTheOther(t *testing.T) {
	w := &codec.Writer{}
	if len(w.Bytes()) != 0 {
		t.Error("something is written at first")
	}
	want := ""
	for _, x := range []struct {
		do func()
		b  string
	}{
		{func() { w.Flag(true) }, "\x01"},
		{func() { w.Flag(false) }, "\x00"},
		{func() { w.N(300, 7) }, "\x82\x01\x2c\x07"},
		{func() { w.B([]byte("ab")) }, "\x02ab"},
		{func() { w.I(-3) }, "\x05"},
		{func() { w.F(1) }, "\xbf\xf0\x00\x00\x00\x00\x00\x00"},
		{func() { w.Flag(true) }, "\x01"},
	} {
		x.do()
		want += x.b
		for range 2 {
			if got := string(w.Bytes()); got != want {
				t.Fatalf("%x, not %x", got, want)
			}
		}
	}
}

// P2.2: what was written is read, and then nothing is left.
func TestReadsNumbers(t *testing.T) {
	all := ""
	for _, x := range numbers {
		for _, most := range []uint64{x.n, math.MaxUint64} {
			r := codec.Read([]byte(x.b))
			if n := r.N(most); n != x.n || r.Left() != 0 || r.End() != api.OK {
				t.Errorf("N(%d) of %x: %d, %d left, %d", most, x.b, n, r.Left(), r.End())
			}
		}
		all += x.b
	}
	r := codec.Read([]byte(all))
	left := len(all)
	for _, x := range numbers {
		left -= len(x.b)
		if n := r.N(math.MaxUint64); n != x.n || r.Left() != left {
			t.Errorf("%d, not %d; %d left, not %d", n, x.n, r.Left(), left)
		}
		if e := r.End(); (e == api.OK) != (left == 0) {
			t.Errorf("%d left: %d", left, e)
		}
	}
}

// P2.2.
func TestReadsSigned(t *testing.T) {
	for _, x := range signed {
		r := codec.Read([]byte(x.b))
		if n := r.I(); n != x.n || r.End() != api.OK {
			t.Errorf("I of %x: %d, not %d; %d", x.b, n, x.n, r.End())
		}
	}
}

// P2.2: floats are told as flt.Canon has them.
func TestReadsFloats(t *testing.T) {
	for _, x := range floats {
		r := codec.Read([]byte(x.b))
		if f := r.F(); bits(f) != bits(flt.Canon(x.f)) || r.End() != api.OK {
			t.Errorf("F of %x: %v, not %v; %d", x.b, f, x.f, r.End())
		}
	}
}

// P2.2: no bytes and many, at their bound and above it.
func TestReadsBytes(t *testing.T) {
	for _, n := range append(lengths(), mostPart+1, 1<<20) {
		text := strings.Repeat("\xffab", n/3+1)[:n]
		b := []byte(head(n) + text)
		for _, most := range []int{n, n + 1, math.MaxInt} {
			r := codec.Read(b)
			if got := r.B(most); string(got) != text || r.End() != api.OK {
				t.Errorf("B(%d) of %d bytes: %d bytes, %d", most, n, len(got), r.End())
			}
		}
		for _, most := range []int{n - 1, -1, math.MinInt} {
			r := codec.Read(b)
			if got := r.B(most); len(got) != 0 || r.End() != api.ErrCodec || r.Left() != 0 {
				t.Errorf("B(%d) of %d bytes: %d bytes, %d", most, n, len(got), r.End())
			}
		}
	}
}

// P2.2.
func TestReadsFlags(t *testing.T) {
	r := codec.Read([]byte{1, 0, 1})
	if !r.Flag() || r.Flag() || r.Left() != 1 || !r.Flag() || r.End() != api.OK {
		t.Error("flags")
	}
}

// calls are all that a Reader may be asked for, each true if it told 0, nothing or false.
func calls() []func(r *codec.Reader) bool {
	return []func(r *codec.Reader) bool{
		func(r *codec.Reader) bool { return r.N(math.MaxUint64) == 0 },
		func(r *codec.Reader) bool { return r.N(0) == 0 },
		func(r *codec.Reader) bool { return r.I() == 0 },
		func(r *codec.Reader) bool { return bits(r.F()) == 0 },
		func(r *codec.Reader) bool { return len(r.B(math.MaxInt)) == 0 },
		func(r *codec.Reader) bool { return len(r.B(0)) == 0 },
		func(r *codec.Reader) bool { return len(r.B(-1)) == 0 },
		func(r *codec.Reader) bool { return !r.Flag() },
	}
}

// mustHaveFailed: P2.2, a Reader that has failed tells 0 (nothing, false) from then on.
func mustHaveFailed(t *testing.T, name string, r *codec.Reader) {
	t.Helper()
	for range 2 {
		for i, call := range calls() {
			if !call(r) {
				t.Errorf("%s: call %d tells something", name, i)
			}
			if r.Left() != 0 || r.End() != api.ErrCodec {
				t.Errorf("%s: %d left, End %d", name, r.Left(), r.End())
			}
		}
	}
}

// behind is what would be read well, if only the Reader hadn't failed.
const behind = "\x01\x01\x01\x01\x01\x01\x01\x01\x01\x01\x01\x01\x01\x01\x01\x01\x01\x01\x01\x01"

// P2.2: each way in which bytes may be malformed, wherever they end.
func TestFailsOnMalformed(t *testing.T) {
	number := func(r *codec.Reader) bool { return r.N(math.MaxUint64) == 0 }
	signed := func(r *codec.Reader) bool { return r.I() == 0 }
	float := func(r *codec.Reader) bool { return bits(r.F()) == 0 }
	text := func(r *codec.Reader) bool { return len(r.B(math.MaxInt)) == 0 }
	flag := func(r *codec.Reader) bool { return !r.Flag() }
	for _, x := range []struct {
		name string
		b    string
		call func(r *codec.Reader) bool
	}{
		{"a byte ahead of 0", "\x81\x00", number},
		{"a byte ahead of 5", "\x81\x05", number},
		{"a byte ahead of 127", "\x81\x7f", number},
		{"a nought ahead of 200", "\x82\x00\xc8", number},
		{"a nought ahead of 255", "\x82\x00\xff", number},
		{"noughts ahead of 5", "\x82\x00\x05", number},
		{"a nought ahead of 2^16 - 1", "\x83\x00\xff\xff", number},
		{"a nought ahead of 2^56 - 1", "\x88\x00\xff\xff\xff\xff\xff\xff\xff", number},
		{"noughts alone", "\x88\x00\x00\x00\x00\x00\x00\x00\x00", number},
		{"no bytes behind 128", "\x80", number},
		{"9 bytes", "\x89\x01\x01\x01\x01\x01\x01\x01\x01\x01", number},
		{"9 bytes, one nought", "\x89\x00\x01\x01\x01\x01\x01\x01\x01\x01", number},
		{"16 bytes", "\x90\x01\x01\x01\x01\x01\x01\x01\x01\x01\x01\x01\x01\x01\x01\x01\x01", number},
		{"127 bytes", "\xff" + strings.Repeat("\x01", 127), number},
		{"no bytes behind 128, signed", "\x80", signed},
		{"a byte ahead of -3", "\x81\x05", signed},
		{"a nought ahead of 100", "\x82\x00\xc8", signed},
		{"a key below -Inf's", "\x00\x0f\xff\xff\xff\xff\xff\xfe", float},
		{"a key right above NaN's", "\x00\x00\x00\x00\x00\x00\x00\x01", float},
		{"the key of nought's sign", "\x7f\xff\xff\xff\xff\xff\xff\xff", float},
		{"a key above +Inf's", "\xff\xf0\x00\x00\x00\x00\x00\x01", float},
		{"the greatest key", "\xff\xff\xff\xff\xff\xff\xff\xff", float},
		{"a length with a byte ahead", "\x81\x01a", text},
		{"a length with 128", "\x80", text},
		{"a flag of 2", "\x02", flag},
		{"a flag of 128", "\x80", flag},
		{"a flag of 255", "\xff", flag},
	} {
		for _, more := range []string{"", behind} {
			r := codec.Read([]byte("\x01" + x.b + more))
			if !r.Flag() {
				t.Errorf("%s: what is ahead isn't read", x.name)
			}
			if !x.call(r) {
				t.Errorf("%s: something is told", x.name)
			}
			mustHaveFailed(t, x.name, r)
		}
	}
}

// P2.2: a number above its bound, right beside it and far from it.
func TestFailsAboveMost(t *testing.T) {
	for _, x := range numbers {
		for _, most := range []uint64{0, x.n / 2, x.n - 1} {
			if x.n == 0 {
				continue
			}
			r := codec.Read([]byte(x.b + behind))
			if n := r.N(most); n != 0 {
				t.Errorf("N(%d) of %d: %d", most, x.n, n)
			}
			mustHaveFailed(t, "above most", r)
		}
	}
	r := codec.Read([]byte("\x00" + behind))
	if r.N(0) != 0 || r.Left() != len(behind) {
		t.Error("0 is not above 0")
	}
}

// P2.2: bytes that are more than most, though they are all there.
func TestFailsOnTooManyBytes(t *testing.T) {
	for _, x := range []struct {
		b    string
		most int
	}{{"\x01a", 0}, {"\x03abc", 2}, {"\x00", -1}, {"\x01a", -1}, {"\x00", math.MinInt}} {
		r := codec.Read([]byte(x.b + behind))
		if got := r.B(x.most); len(got) != 0 {
			t.Errorf("B(%d) of %x: %x", x.most, x.b, got)
		}
		mustHaveFailed(t, "more than most", r)
	}
}

// P2.2: an end too early, at each place within each part.
func TestFailsAtAnEarlyEnd(t *testing.T) {
	early := func(b string, call func(r *codec.Reader) bool) {
		for n := range len(b) {
			r := codec.Read([]byte(b[:n]))
			if !call(r) {
				t.Errorf("%d of %x: something is told", n, b)
			}
			mustHaveFailed(t, "early end", r)
		}
	}
	for _, x := range numbers {
		early(x.b, func(r *codec.Reader) bool { return r.N(math.MaxUint64) == 0 })
	}
	for _, x := range signed {
		early(x.b, func(r *codec.Reader) bool { return r.I() == 0 })
	}
	for _, x := range floats {
		early(x.b, func(r *codec.Reader) bool { return bits(r.F()) == 0 })
	}
	for _, n := range []int{0, 1, 5, 127, 128, 300} {
		early(head(n)+strings.Repeat("\x01", n), func(r *codec.Reader) bool { return len(r.B(math.MaxInt)) == 0 })
	}
	for _, x := range numbers { // a length of which there are no bytes, up to 2^64 - 1
		if x.n > 0 {
			early(x.b+"\x01", func(r *codec.Reader) bool { return len(r.B(math.MaxInt)) == 0 })
		}
	}
	early("\x01", func(r *codec.Reader) bool { return !r.Flag() })
}

// P2.2: lengths that no list has are above every most that an int can be, or end too early.
func TestFailsOnVastLengths(t *testing.T) {
	for _, n := range []uint64{math.MaxInt64, 1 << 63, 1<<63 + 1, math.MaxUint64} {
		for _, most := range []int{0, 1, math.MaxInt} {
			r := codec.Read([]byte(written(func(w *codec.Writer) { w.N(n) }) + behind))
			if got := r.B(most); len(got) != 0 {
				t.Errorf("B of %d bytes: %x", n, got)
			}
			mustHaveFailed(t, "vast", r)
		}
	}
}

// P2.2: End of bytes that weren't read, and of none; asking changes nothing.
func TestEndAndLeft(t *testing.T) {
	for n := range 3 {
		r := codec.Read([]byte("\x01\x01\x01")[:n])
		for range 2 {
			if r.Left() != n || (r.End() == api.OK) != (n == 0) || n > 0 && r.End() != api.ErrCodec {
				t.Errorf("of %d bytes: %d left, End %d", n, r.Left(), r.End())
			}
		}
		for range n {
			r.N(1)
		}
		if r.Left() != 0 || r.End() != api.OK {
			t.Errorf("of %d bytes, read: %d left, End %d", n, r.Left(), r.End())
		}
	}
	if r := codec.Read(nil); r.Left() != 0 || r.End() != api.OK {
		t.Error("of nil")
	}
}

// ordinary has parts of all kinds, with the bytes that they come to.
func ordinary() ([]api.Part, string) {
	var l []api.Part
	all := ""
	for _, x := range numbers {
		l, all = append(l, api.Part{Kind: api.PartN, N: x.n}), all+x.b
	}
	for _, x := range signed {
		l, all = append(l, api.Part{Kind: api.PartI, I: x.n}), all+x.b
	}
	for _, x := range floats {
		l, all = append(l, api.Part{Kind: api.PartF, F: x.f}), all+x.b
	}
	for _, n := range lengths() {
		text := strings.Repeat("\x80", n)
		l, all = append(l, api.Part{Kind: api.PartB, B: []byte(text)}), all+head(n)+text
	}
	l = append(l, api.Part{Kind: api.PartFlag, Is: true}, api.Part{Kind: api.PartFlag})
	return l, all + "\x01\x00"
}

func kindsOf(l []api.Part) []int {
	var kinds []int
	for _, p := range l {
		kinds = append(kinds, p.Kind)
	}
	return kinds
}

// P2.3, P2.4: what Put writes Parts reads, floats by flt.Canon.
func TestPutAndParts(t *testing.T) {
	l, all := ordinary()
	if got := codec.Put(l...); string(got) != all {
		t.Errorf("Put of all kinds: %d bytes, not %d", len(got), len(all))
	}
	got, e := codec.Parts([]byte(all), kindsOf(l)...)
	if e != api.OK || len(got) != len(l) {
		t.Fatalf("Parts of all kinds: %d of %d, %d", len(got), len(l), e)
	}
	for i, p := range l {
		p.F = flt.Canon(p.F)
		if !samePart(got[i], p) {
			t.Errorf("part %d: %v, not %v", i, got[i], p)
		}
	}
	for _, p := range l {
		if got := codec.Put(p); string(got) != written(func(w *codec.Writer) { write(w, p) }) {
			t.Errorf("Put of %v: %x", p, got)
		}
	}
}

func write(w *codec.Writer, p api.Part) {
	switch p.Kind {
	case api.PartN:
		w.N(p.N)
	case api.PartI:
		w.I(p.I)
	case api.PartF:
		w.F(p.F)
	case api.PartB:
		w.B(p.B)
	case api.PartFlag:
		w.Flag(p.Is)
	}
}

// P2.3: a part is its Kind's field alone; other kinds come to nothing, or can't be read.
func TestOtherKinds(t *testing.T) {
	full := api.Part{N: 300, I: -3, F: 1, B: []byte("ab"), Is: true}
	want := map[int]string{api.PartN: "\x82\x01\x2c", api.PartI: "\x05", api.PartF: "\xbf\xf0\x00\x00\x00\x00\x00\x00", api.PartB: "\x02ab", api.PartFlag: "\x01"}
	for _, kind := range append([]int{0, 6, -1, 7, 255, 256 + api.PartN, math.MaxInt, math.MinInt}, allKinds...) {
		full.Kind = kind
		if got := codec.Put(full); string(got) != want[kind] {
			t.Errorf("Put of kind %d: %x", kind, got)
		}
		flag := api.Part{Kind: api.PartFlag, Is: true}
		if got := codec.Put(flag, full, flag); string(got) != "\x01"+want[kind]+"\x01" {
			t.Errorf("Put of kind %d between others: %x", kind, got)
		}
		if want[kind] != "" {
			continue
		}
		for _, b := range []string{"", "\x01", "\x01\x01", "\x01\x01\x01"} {
			for _, kinds := range [][]int{{kind}, {api.PartFlag, kind}, {kind, api.PartFlag}, {api.PartFlag, kind, api.PartFlag}} {
				if l, e := codec.Parts([]byte(b), kinds...); l != nil || e != api.ErrCodec {
					t.Errorf("Parts of kinds %v: %v, %d", kinds, l, e)
				}
			}
		}
	}
}

// P2.3, P6: the fields that a kind doesn't name are zero.
func TestPartsLeaveOtherFieldsZero(t *testing.T) {
	l, e := codec.Parts([]byte("\x07\x07\xbf\xf0\x00\x00\x00\x00\x00\x00\x01a\x01"), allKinds...)
	want := []api.Part{{Kind: api.PartN, N: 7}, {Kind: api.PartI, I: -4}, {Kind: api.PartF, F: 1}, {Kind: api.PartB, B: []byte("a")}, {Kind: api.PartFlag, Is: true}}
	if e != api.OK || !slices.EqualFunc(l, want, samePart) {
		t.Errorf("%v, %d", l, e)
	}
}

// P2.3: bytes of 65,536 and of one more.
func TestPartsBound(t *testing.T) {
	text := strings.Repeat("a", mostPart+1)
	if l, e := codec.Parts([]byte(head(mostPart)+text[1:]), api.PartB); e != api.OK || len(l) != 1 || string(l[0].B) != text[1:] {
		t.Errorf("of 65536: %d parts, %d", len(l), e)
	}
	if l, e := codec.Parts([]byte(head(mostPart+1)+text), api.PartB); e != api.ErrCodec || l != nil {
		t.Errorf("of 65537: %d parts, %d", len(l), e)
	}
	if got := codec.Put(api.Part{Kind: api.PartB, B: []byte(text)}); string(got) != head(mostPart+1)+text {
		t.Errorf("Put of 65537: %d bytes", len(got))
	}
}

// P2.3: what is none of these kinds.
func TestPartsOfOthers(t *testing.T) {
	for _, x := range []struct {
		b     string
		kinds []int
	}{
		{"\x81\x05", []int{api.PartN}}, // the document's example
		{"", []int{api.PartN}}, {"", []int{api.PartI}}, {"", []int{api.PartF}}, {"", []int{api.PartB}}, {"", []int{api.PartFlag}},
		{"\x05", nil}, {"\x05\x05", []int{api.PartN}}, {"\x05", []int{api.PartN, api.PartN}},
		{"\x01", []int{api.PartB}}, {"\x01ab", []int{api.PartB}}, {"\x02", []int{api.PartFlag}},
		{"\x00\x00\x00\x00\x00\x00\x00", []int{api.PartF}}, {"\x00\x00\x00\x00\x00\x00\x00\x00\x00", []int{api.PartF}},
		{"\xff\xff\xff\xff\xff\xff\xff\xff", []int{api.PartF}}, {"\x80", []int{api.PartI}},
		{"\x02\x05", []int{api.PartFlag, api.PartN}},
	} {
		if l, e := codec.Parts([]byte(x.b), x.kinds...); e != api.ErrCodec || l != nil {
			t.Errorf("Parts of %x as %v: %v, %d", x.b, x.kinds, l, e)
		}
	}
}

// P2.3, P3: nothing is no parts, nil or empty.
func TestPutAndPartsOfNothing(t *testing.T) {
	if b := codec.Put(); len(b) != 0 {
		t.Errorf("Put(): %x", b)
	}
	if b := codec.Put([]api.Part{}...); len(b) != 0 {
		t.Errorf("Put of none: %x", b)
	}
	for _, b := range [][]byte{nil, {}} {
		for _, kinds := range [][]int{nil, {}} {
			if l, e := codec.Parts(b, kinds...); e != api.OK || len(l) != 0 {
				t.Errorf("Parts of nothing: %v, %d", l, e)
			}
		}
	}
	empty := codec.Put(api.Part{Kind: api.PartB, B: []byte{}})
	if !bytes.Equal(empty, codec.Put(api.Part{Kind: api.PartB})) {
		t.Error("no bytes are written otherwise than nil")
	}
	if l, e := codec.Parts(empty, api.PartB); e != api.OK || len(l) != 1 || len(l[0].B) != 0 {
		t.Errorf("no bytes: %v, %d", l, e)
	}
}

// kindLists has all lists of kinds up to this length.
func kindLists(most int) [][]int {
	all := [][]int{nil}
	for at := 0; at < len(all); at++ {
		if len(all[at]) == most {
			break
		}
		for _, kind := range allKinds {
			all = append(all, append(slices.Clone(all[at]), kind))
		}
	}
	return all
}

// P2.4: of all bytes up to three, whatever is read as parts is what Put writes of them.
func TestOneWayOnlyOfShortBytes(t *testing.T) {
	kinds := kindLists(3)
	edges := []byte{0, 1, 2, 3, 5, 126, 127, 128, 129, 130, 131, 136, 137, 254, 255}
	try := func(b []byte) {
		for _, k := range kinds {
			if l, e := codec.Parts(b, k...); e == api.OK && !bytes.Equal(codec.Put(l...), b) {
				t.Errorf("%x is read as %v, which has other bytes", b, l)
			}
		}
	}
	try(nil)
	for a := range 256 {
		try([]byte{byte(a)})
		for b := range 256 {
			try([]byte{byte(a), byte(b)})
		}
	}
	for _, a := range edges {
		for _, b := range edges {
			for _, c := range edges {
				try([]byte{a, b, c})
			}
		}
	}
}

// P2.4: bytes that differ in one byte from what Put writes are refused, or are other parts, whose bytes they are.
func TestOneWayOnlyNextToParts(t *testing.T) {
	for _, l := range [][]api.Part{
		{{Kind: api.PartN, N: 300}, {Kind: api.PartN, N: 5}},
		{{Kind: api.PartI, I: math.MinInt64}, {Kind: api.PartFlag, Is: true}},
		{{Kind: api.PartF, F: -1}, {Kind: api.PartF}},
		{{Kind: api.PartF, F: inf}, {Kind: api.PartF, F: -inf}, {Kind: api.PartF, F: math.NaN()}},
		{{Kind: api.PartB, B: []byte("abc")}, {Kind: api.PartN, N: 1 << 40}, {Kind: api.PartB}},
	} {
		whole := codec.Put(l...)
		for at := range whole {
			for x := range 256 {
				b := bytes.Clone(whole)
				b[at] = byte(x)
				if got, e := codec.Parts(b, kindsOf(l)...); e == api.OK && !bytes.Equal(codec.Put(got...), b) {
					t.Errorf("%x is read as %v, which has other bytes", b, got)
				}
			}
		}
	}
}

// P2.4: floats of all signs and exponents come back, and each key that is a float's is written again.
func TestFloatsThereAndBack(t *testing.T) {
	for sign := range uint64(1 << 12) {
		for _, m := range []uint64{0, 1, 0x123456789abcd, 0x8000000000000, 0xfffffffffffff} {
			f := math.Float64frombits(sign<<52 | m)
			l, e := codec.Parts(codec.Put(api.Part{Kind: api.PartF, F: f}), api.PartF)
			if e != api.OK || bits(l[0].F) != bits(flt.Canon(f)) {
				t.Errorf("%x: %v, %d", bits(f), l, e)
			}
			key := []byte(written(func(w *codec.Writer) { w.N(1<<63 | sign<<52 | m) }))[1:]
			if l, e := codec.Parts(key, api.PartF); e == api.OK && !bytes.Equal(codec.Put(l...), key) {
				t.Errorf("key %x is read as %v, which has other bytes", key, l)
			}
		}
	}
}

// P1: objects that nobody made.
func TestObjectsThatNobodyMade(t *testing.T) {
	var w *codec.Writer
	w.N()
	w.N(1, 300)
	w.I(-1)
	w.F(1)
	w.B(nil)
	w.B([]byte("a"))
	w.Flag(true)
	if b := w.Bytes(); len(b) != 0 {
		t.Errorf("a nil Writer has %x", b)
	}
	var r *codec.Reader
	mustHaveFailed(t, "a nil Reader", r)
	if r := (&codec.Reader{}); r.Left() != 0 || r.End() != api.OK {
		t.Errorf("a zero Reader: %d left, End %d", r.Left(), r.End())
	}
	for i, call := range calls() {
		r := &codec.Reader{}
		if !call(r) {
			t.Errorf("a zero Reader: call %d tells something", i)
		}
		mustHaveFailed(t, "a zero Reader", r)
	}
}

// P2: no answer shares memory with an argument, an object or another answer.
func TestSharesNothing(t *testing.T) {
	spoil := func(b []byte) {
		for i := range b[:cap(b)] {
			b[:cap(b)][i] = 0xee
		}
	}
	b := []byte("\x02ab\x02cd")
	r := codec.Read(b)
	first := r.B(2)
	spoil(b)
	second := r.B(2)
	spoil(first)
	if string(second) != "cd" || r.End() != api.OK {
		t.Errorf("a Reader shares with its argument or answers: %q, %d", second, r.End())
	}
	w := &codec.Writer{}
	text := []byte("ab")
	w.B(text)
	spoil(text)
	spoil(w.Bytes())
	one := w.Bytes()
	w.N(7)
	two := w.Bytes()
	spoil(two)
	if string(one) != "\x02ab" || string(w.Bytes()) != "\x02ab\x07" {
		t.Errorf("a Writer shares: %x, %x", one, w.Bytes())
	}
	text = []byte("ab")
	put := codec.Put(api.Part{Kind: api.PartB, B: text})
	spoil(text)
	l, e := codec.Parts(put, api.PartB)
	spoil(put)
	if e != api.OK || string(l[0].B) != "ab" {
		t.Errorf("Parts shares: %q, %d", l[0].B, e)
	}
	l, _ = codec.Parts([]byte("\x01a\x01b"), api.PartB, api.PartB)
	spoil(l[0].B)
	if string(l[1].B) != "b" {
		t.Error("two parts share")
	}
}

// P2: arguments aren't changed, and what lies behind their length is neither read nor written.
func TestLeavesArgumentsAlone(t *testing.T) {
	back := []byte("\x02ab\x05\x05")
	r := codec.Read(back[:3])
	if string(r.B(9)) != "ab" || r.End() != api.OK || r.N(9) != 0 {
		t.Error("a Reader reads behind the length")
	}
	if l, e := codec.Parts(back[:3], []int{api.PartB, api.PartN}[:1]...); e != api.OK || len(l) != 1 {
		t.Errorf("Parts reads behind the length: %v, %d", l, e)
	}
	if string(back) != "\x02ab\x05\x05" {
		t.Errorf("changed: %x", back)
	}
	numbers := []uint64{1, 2, 3}
	w := &codec.Writer{}
	w.N(numbers[:2]...)
	w.B(back[1:3])
	w.N(9)
	if string(w.Bytes()) != "\x01\x02\x02ab\x09" || !slices.Equal(numbers, []uint64{1, 2, 3}) || string(back) != "\x02ab\x05\x05" {
		t.Errorf("%x, %v, %x", w.Bytes(), numbers, back)
	}
	parts := []api.Part{{Kind: api.PartB, B: back[1:3]}, {Kind: api.PartN, N: 9}, {Kind: api.PartN, N: 8}}
	kept := slices.Clone(parts)
	if got := codec.Put(parts[:2]...); string(got) != "\x02ab\x09" || !slices.EqualFunc(parts, kept, samePart) || string(back) != "\x02ab\x05\x05" {
		t.Errorf("%x, %v, %x", got, parts, back)
	}
	kinds := []int{api.PartN, api.PartFlag}
	codec.Parts([]byte("\x07\x01"), kinds...)
	if !slices.Equal(kinds, []int{api.PartN, api.PartFlag}) {
		t.Errorf("kinds changed: %v", kinds)
	}
}
