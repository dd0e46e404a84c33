package crc_test

import (
	"bytes"
	"hash/crc32"
	"math/bits"
	"slices"
	"strings"
	"testing"

	"factotum/crc"
)

const (
	start   = 1<<32 - 1
	poly    = 0x04c11db7
	highest = 1 << 31
)

// text has n bytes of all values, in an order that does not come again soon.
func text(n int) []byte {
	b := make([]byte, n)
	for i := range b {
		b[i] = byte(i*167 + i>>8*59 + 13)
	}
	return b
}

// oracle is More by the library's sum of the same polynomial, which goes through all bits the other way round and is inverted at both ends.
func oracle(c uint32, b []byte) uint32 {
	turned := make([]byte, len(b))
	for i, x := range b {
		turned[i] = bits.Reverse8(x)
	}
	return bits.Reverse32(^crc32.Update(^bits.Reverse32(c), crc32.IEEETable, turned))
}

// sums has sums to begin with: none, all, each bit alone, each bit missing, and ordinary ones with and without their highest bit.
func sums() []uint32 {
	l := []uint32{0, start, poly, ^uint32(poly), 0x0376e6e7, 0x8376e6e7, 0x12345678, 0x92345678, highest - 1, highest + 1, 0x00ffffff, 0xff000000}
	for i := range 32 {
		l = append(l, 1<<i, ^uint32(1<<i))
	}
	return l
}

// lengths has counts of bytes: none, one, few, around powers of two, and many.
func lengths() []int {
	return []int{0, 1, 2, 3, 4, 5, 7, 8, 9, 31, 32, 33, 63, 64, 65, 255, 256, 257, 1000, 4095, 4096, 4097, 60006, 65536, 1 << 20}
}

// P3.1: Step where the chapter's words can be followed step by step: shifts alone, the highest bit out once and more, bits that take each other away.
func TestStepOfEdges(t *testing.T) {
	for _, x := range []struct {
		c    uint32
		x    byte
		want uint32
	}{
		{0, 0, 0},
		{0, 1, poly},             // the one bit comes to the top behind seven shifts, and out at the eighth
		{1 << 24, 0, poly},       // the byte is xored in at the top, so that bit is one with x's
		{1 << 24, 1, 0},          // both bits: none
		{0xa5 << 24, 0xa5, 0},    // as with all others
		{0, 2, 0x09823b6e},       // poly, shifted up once
		{0, 3, 0x0d4326d9},       // both of the above
		{0, 0x40, 0x34867077},    // poly, shifted six times: its highest bit is out once
		{0, 0x80, 0x690ce0ee},    // that, shifted once more
		{highest, 0, 0x690ce0ee}, // the same bit
		{0, 0xff, 0xb1f740b4},
		{1, 0, 1 << 8}, // below the highest eight bits it is shifted alone
		{1 << 23, 0, highest},
		{0x00ffffff, 0, 0xffffff00},
		{0x00ffffff, 1, 0xffffff00 ^ poly},
		{start, 0xff, 0xffffff00},
		{start, 0, 0x4e08bfb4},
	} {
		if got := crc.Step(x.c, x.x); got != x.want {
			t.Errorf("Step(%08x, %02x) = %08x, not %08x", x.c, x.x, got, x.want)
		}
	}
}

// P3.1: every byte behind sums with and without their highest bits, against the library's sum.
func TestStepOfEveryByte(t *testing.T) {
	for _, c := range sums() {
		for x := range 256 {
			if got, want := crc.Step(c, byte(x)), oracle(c, []byte{byte(x)}); got != want {
				t.Errorf("Step(%08x, %02x) = %08x, not %08x", c, x, got, want)
			}
		}
	}
}

// P3.1: More is Step of each byte, in their order.
func TestMoreIsStepOfEach(t *testing.T) {
	for _, c := range sums() {
		for _, n := range []int{0, 1, 2, 3, 9, 64, 300} {
			want := c
			for _, x := range text(n) {
				want = crc.Step(want, x)
			}
			if got := crc.More(c, text(n)); got != want || got != oracle(c, text(n)) {
				t.Errorf("More(%08x) of %d bytes = %08x, not %08x", c, n, got, want)
			}
		}
	}
	if crc.More(0, []byte{1, 2}) == crc.More(0, []byte{2, 1}) {
		t.Error("the order of bytes isn't heeded")
	}
}

// P3.1: the sum that the chapter names, and others of the same kind.
func TestSumOfKnownTexts(t *testing.T) {
	for _, x := range []struct {
		b    string
		want uint32
	}{
		{"123456789", 0x0376e6e7}, // the chapter's example
		{"", 0xffffffff},
		{"\x00", 0x4e08bfb4},
		{"\x01", 0x4e08bfb4 ^ poly},
		{"\xff", 0xffffff00},
		{"\xff\xff\xff\xff", 0},
		{"\xff\xff\xff\xff\x00\x00\x00", 0},
		{"\xff\xff\xff\xff\x01", poly},
		{"\x00\x00\x00\x00", 0xc704dd7b},
	} {
		if got := crc.Sum([]byte(x.b)); got != x.want {
			t.Errorf("Sum of %q = %08x, not %08x", x.b, got, x.want)
		}
	}
}

// P3.1: Sum is More from 2^32 - 1 on, of no bytes, one and many.
func TestSumOfAllLengths(t *testing.T) {
	for _, n := range lengths() {
		for _, b := range [][]byte{text(n), make([]byte, n), bytes.Repeat([]byte{0xff}, n)} {
			got := crc.Sum(b)
			if got != crc.More(start, b) || got != oracle(start, b) {
				t.Errorf("Sum of %d bytes = %08x, not %08x", n, got, oracle(start, b))
			}
		}
	}
	for x := range 256 {
		if got, want := crc.Sum([]byte{byte(x)}), oracle(start, []byte{byte(x)}); got != want {
			t.Errorf("Sum of the byte %02x = %08x, not %08x", x, got, want)
		}
	}
}

// P3.1: each nought is heeded, ahead of a text, behind it and alone.
func TestSumHeedsNoughts(t *testing.T) {
	seen := map[uint32]int{}
	for n := range 100 {
		sum := crc.Sum(make([]byte, n))
		if was, is := seen[sum]; is {
			t.Errorf("%d and %d noughts have one sum", was, n)
		}
		seen[sum] = n
	}
	if crc.Sum([]byte("a")) == crc.Sum([]byte("\x00a")) || crc.Sum([]byte("a")) == crc.Sum([]byte("a\x00")) {
		t.Error("noughts at an end aren't heeded")
	}
}

// P3.2: a text taken in two pieces of every length, none too, from all kinds of sums on.
func TestInTwoPieces(t *testing.T) {
	for _, whole := range [][]byte{nil, []byte("a"), []byte("123456789"), text(70), make([]byte, 40), bytes.Repeat([]byte{0xff}, 40)} {
		for _, c := range sums() {
			want := crc.More(c, whole)
			for at := range len(whole) + 1 {
				if got := crc.More(crc.More(c, whole[:at]), whole[at:]); got != want {
					t.Errorf("from %08x on, %d bytes cut at %d: %08x, not %08x", c, len(whole), at, got, want)
				}
			}
		}
	}
}

// P3.2: Sum goes on with More, in pieces of every length.
func TestSumInManyPieces(t *testing.T) {
	whole := text(300)
	want := crc.Sum(whole)
	for size := 1; size <= len(whole); size++ {
		got := crc.Sum(nil)
		for piece := range slices.Chunk(whole, size) {
			got = crc.More(crc.More(got, nil), piece)
		}
		if got != want {
			t.Errorf("in pieces of %d: %08x, not %08x", size, got, want)
		}
		if got := crc.More(crc.Sum(whole[:size]), whole[size:]); got != want {
			t.Errorf("Sum of %d and More of the rest: %08x, not %08x", size, got, want)
		}
	}
}

// P3.2: no bytes leave each sum as it is.
func TestMoreOfNothing(t *testing.T) {
	for _, c := range sums() {
		if crc.More(c, nil) != c || crc.More(c, []byte{}) != c {
			t.Errorf("More(%08x) of nothing: %08x, %08x", c, crc.More(c, nil), crc.More(c, []byte{}))
		}
	}
}

// mustHeedBit turns one bit of b, counted from the first byte's highest, and turns it back.
func mustHeedBit(t *testing.T, b []byte, sum uint32, bit int) {
	t.Helper()
	b[bit/8] ^= 128 >> (bit % 8)
	if crc.Sum(b) == sum {
		t.Errorf("of %d bytes: bit %d turned, and the sum is the same", len(b), bit)
	}
	b[bit/8] ^= 128 >> (bit % 8)
}

// P3.3: each bit of texts, the first, the last and all in between.
func TestEachBitOfShortTexts(t *testing.T) {
	for n := 1; n <= 80; n++ {
		for _, b := range [][]byte{text(n), make([]byte, n), bytes.Repeat([]byte{0xff}, n), []byte(strings.Repeat("milk ", n))} {
			sum := crc.Sum(b)
			for bit := range 8 * len(b) {
				mustHeedBit(t, b, sum, bit)
			}
		}
	}
	for x := range 256 {
		b := []byte{byte(x)}
		for bit := range 8 {
			mustHeedBit(t, b, crc.Sum(b), bit)
		}
	}
}

// P3.3: bits of long texts: the first ones, the last ones, and some in between.
func TestBitsOfLongTexts(t *testing.T) {
	for _, n := range []int{1000, 4096, 60006, 1 << 20} {
		b := text(n)
		sum := crc.Sum(b)
		for _, bit := range []int{0, 1, 7, 8, 31, 32, 4*n - 1, 4 * n, 4*n + 1, 8*n/3 + 5, 8*n - 33, 8*n - 32, 8*n - 9, 8*n - 8, 8*n - 2, 8*n - 1} {
			mustHeedBit(t, b, sum, bit)
		}
	}
}

// P2: arguments aren't changed, and what lies behind their length is neither read nor written.
func TestLeavesArgumentsAlone(t *testing.T) {
	back := []byte("123456789abc")
	if crc.Sum(back[:9]) != 0x0376e6e7 || crc.More(start, back[:9]) != 0x0376e6e7 || crc.Sum(back[:0]) != start {
		t.Error("what lies behind the length is read")
	}
	if string(back) != "123456789abc" {
		t.Errorf("changed: %q", back)
	}
}

// P3: nil and no bytes are the same, and an answer hangs on the arguments alone.
func TestSameArgumentsSameAnswer(t *testing.T) {
	if crc.Sum(nil) != start || crc.Sum([]byte{}) != start {
		t.Errorf("Sum of nothing: %08x, %08x", crc.Sum(nil), crc.Sum([]byte{}))
	}
	for range 3 {
		if crc.Sum([]byte("123456789")) != 0x0376e6e7 || crc.Step(0, 1) != poly || crc.More(0, []byte{1}) != poly {
			t.Error("a call before is remembered")
		}
		crc.Sum(text(33))
		crc.More(7, text(5))
		crc.Step(9, 9)
	}
}
