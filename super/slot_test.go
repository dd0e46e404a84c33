package super_test

import (
	"bytes"
	"encoding/binary"
	"hash/crc32"
	"math"
	"math/bits"
	"slices"
	"strings"
	"testing"

	"factotum/api"
	"factotum/super"
)

const (
	most = 4 // numbers of a slot
	top  = uint64(math.MaxUint64)
)

// written has slots, written out by a script apart from the program.
func written() []struct {
	gen uint64
	l   []uint64
	b   string
} {
	return []struct {
		gen uint64
		l   []uint64
		b   string
	}{
		{0, nil, "FS\x00\x00\xbf\x30\x35\xcb"},
		{0, []uint64{7}, "FS\x00\x01\x07\x79\x1a\x6a\x1a"},
		{1, []uint64{0}, "FS\x01\x01\x00\x66\x85\x96\x98"},
		{1, []uint64{8}, "FS\x01\x01\x08\x40\x8d\x7b\x20"},
		{2, []uint64{0, 0}, "FS\x02\x02\x00\x00\x51\xab\x54\xc2"},
		{5, []uint64{0, 0, 0, 0}, "FS\x05\x04\x00\x00\x00\x00\xfe\x9e\xc5\x1d"},
		{7, []uint64{1, 2}, "FS\x07\x02\x01\x02\x2a\xa8\x78\xc2"},
		{127, []uint64{127, 128}, "FS\x7f\x02\x7f\x81\x80\x1b\x8c\x38\x12"},
		{128, []uint64{255, 256, 300}, "FS\x81\x80\x03\x81\xff\x82\x01\x00\x82\x01\x2c\x68\x92\xef\x6b"},
		{300, []uint64{65535, 65536, 1, 127}, "FS\x82\x01\x2c\x04\x82\xff\xff\x83\x01\x00\x00\x01\x7f\xc4\xed\xd8\x4e"},
		{1 << 32, []uint64{1<<40 - 1, 1 << 40}, "FS\x85\x01\x00\x00\x00\x00\x02\x85\xff\xff\xff\xff\xff\x86\x01\x00\x00\x00\x00\x00\x59\x8c\xc6\x35"},
		{1 << 63, []uint64{1<<63 - 1, 1 << 63, 1<<56 - 1}, "FS\x88\x80\x00\x00\x00\x00\x00\x00\x00\x03\x88\x7f\xff\xff\xff\xff\xff\xff\xff\x88\x80\x00\x00\x00\x00\x00\x00\x00\x87\xff\xff\xff\xff\xff\xff\xff\x45\x5d\x06\x51"},
		{top - 1, []uint64{top}, "FS\x88\xff\xff\xff\xff\xff\xff\xff\xfe\x01\x88\xff\xff\xff\xff\xff\xff\xff\xff\xa4\x2e\xcc\x34"},
		{top, []uint64{top, top, top, top}, "FS\x88\xff\xff\xff\xff\xff\xff\xff\xff\x04\x88\xff\xff\xff\xff\xff\xff\xff\xff\x88\xff\xff\xff\xff\xff\xff\xff\xff\x88\xff\xff\xff\xff\xff\xff\xff\xff\x88\xff\xff\xff\xff\xff\xff\xff\xff\x18\xcb\x6b\x87"},
		// Sums that end in bytes 0.
		{167, nil, "FS\x81\xa7\x00\xcd\x2a\x84\x00"},
		{5, []uint64{361}, "FS\x05\x01\x82\x01\x69\xff\x04\x00\x00"},
	}
}

// number is what codec writes of n, made in another way.
func number(n uint64) string {
	if n < 128 {
		return string([]byte{byte(n)})
	}
	b := bytes.TrimLeft(binary.BigEndian.AppendUint64(nil, n), "\x00")
	return string([]byte{128 + byte(len(b))}) + string(b)
}

// sum is crc.Sum by the library's sum of the same polynomial, which goes through bits the other way round.
func sum(s string) uint32 {
	turned := []byte(s)
	for i, x := range turned {
		turned[i] = bits.Reverse8(x)
	}
	return bits.Reverse32(^crc32.ChecksumIEEE(turned))
}

// summed is s with its sum behind it.
func summed(s string) string {
	return string(binary.BigEndian.AppendUint32([]byte(s), sum(s)))
}

// slot is what Slot makes, made in another way.
func slot(gen uint64, l ...uint64) string {
	s := "FS" + number(gen) + number(uint64(len(l)))
	for _, n := range l {
		s += number(n)
	}
	return summed(s)
}

func noughts(n int) string { return strings.Repeat("\x00", n) }

// numbers are such as have unlike counts of bytes.
func numbers() []uint64 {
	l := []uint64{0, 1, 2, 5, 126, 127, top - 1, top}
	for k := 7; k < 64; k++ {
		if k%8 == 0 || k%8 == 7 {
			l = append(l, 1<<k-1, 1<<k, 1<<k+1)
		}
	}
	return l
}

// mustTell asks that b is a slot of these.
func mustTell(t *testing.T, b string, gen uint64, l ...uint64) {
	t.Helper()
	g, m, e := super.Of([]byte(b))
	if g != gen || !slices.Equal(m, l) || e != api.OK {
		t.Errorf("Of %x: %d, %d, %d, not %d, %d", b, g, m, e, gen, l)
	}
}

// mustBeNone asks that b is no slot.
func mustBeNone(t *testing.T, what, b string) {
	t.Helper()
	g, l, e := super.Of([]byte(b))
	if g != 0 || len(l) != 0 || e != api.ErrSuper {
		t.Errorf("%s: Of %x: %d, %d, %d, not ErrSuper", what, b, g, l, e)
	}
}

// P6.1: slots as they are written out, and back.
func TestSlotsWrittenOut(t *testing.T) {
	for _, x := range written() {
		b, e := super.Slot(x.gen, x.l...)
		if string(b) != x.b || e != api.OK {
			t.Errorf("Slot(%d, %d): %x, %d, not %x", x.gen, x.l, b, e, x.b)
		}
		if s := slot(x.gen, x.l...); s != x.b {
			t.Errorf("the tests' own slot of %d, %d is %x, not %x", x.gen, x.l, s, x.b)
		}
		mustTell(t, x.b, x.gen, x.l...)
	}
}

// P6.1: slots of every count of numbers, each number of every count of bytes at every place.
func TestSlotsOfAllSizes(t *testing.T) {
	for _, gen := range numbers() {
		for count := range most + 1 {
			for at := range max(count, 1) {
				for _, n := range numbers() {
					l := []uint64{3, 300, 70000, 9}[:count]
					if count > 0 {
						l[at] = n
					}
					b, e := super.Slot(gen, l...)
					if want := slot(gen, l...); string(b) != want || e != api.OK {
						t.Fatalf("Slot(%d, %d): %x, %d, not %x", gen, l, b, e, want)
					}
					mustTell(t, string(b), gen, l...)
				}
			}
		}
	}
}

// P6.1: a slot of the most numbers, each of the most bytes, has room in a sector.
func TestTheLongestSlot(t *testing.T) {
	b, e := super.Slot(top, top, top, top, top)
	if len(b) != 52 || len(b) > api.Sector || e != api.OK {
		t.Errorf("%d bytes, %d", len(b), e)
	}
}

// P6.1: more numbers than there may be.
func TestSlotsOfTooMany(t *testing.T) {
	for _, n := range []int{5, 6, 7, 8, 9, 63, 64, 127, 128, 129, 255, 256, 257, 260, 1000, 1 << 16, 1<<16 + 1} {
		for _, gen := range []uint64{0, 1, top} {
			b, e := super.Slot(gen, make([]uint64, n)...)
			if len(b) != 0 || e != api.ErrLong {
				t.Errorf("Slot of %d numbers: %x, %d, not ErrLong", n, b, e)
			}
		}
	}
}

// P6.1: a slot with only bytes 0 behind it, up to a sector's end and beyond it.
func TestNoughtsBehindASlot(t *testing.T) {
	for _, x := range written() {
		for n := range 2*api.Sector + 2 {
			mustTell(t, x.b+noughts(n), x.gen, x.l...)
		}
		for _, n := range []int{1000, 4096, 65536} {
			mustTell(t, x.b+noughts(n), x.gen, x.l...)
		}
	}
}

// P6.1: one other byte behind a slot, near it and far behind, with bytes 0 about it or without.
func TestOtherBytesBehindASlot(t *testing.T) {
	for _, x := range written() {
		for n := range 2*api.Sector + 2 {
			for _, other := range []string{"\x01", "\x80", "\xff", " ", "F"} {
				mustBeNone(t, "another byte behind", x.b+noughts(n)+other)
				mustBeNone(t, "another byte behind", x.b+noughts(n)+other+noughts(3))
			}
		}
		mustBeNone(t, "another byte far behind", x.b+noughts(5000)+"\x01")
		mustBeNone(t, "a slot behind", x.b+x.b)
		mustBeNone(t, "a slot behind", x.b+noughts(api.Sector-len(x.b))+slot(9))
	}
}

// P6.1: bytes that end within a slot, be it at the sum's last bytes 0, and with the whole slot behind the list's length.
func TestAnEndWithinASlot(t *testing.T) {
	for _, x := range written() {
		whole := []byte(x.b + noughts(api.Sector))
		for n := range len(x.b) {
			g, l, e := super.Of(whole[:n])
			if g != 0 || len(l) != 0 || e != api.ErrSuper {
				t.Errorf("the first %d bytes of %x: %d, %d, %d, not ErrSuper", n, x.b, g, l, e)
			}
			mustBeNone(t, "an end within", x.b[:n])
			if strings.Trim(x.b[n:], "\x00") != "" {
				mustBeNone(t, "noughts from within on", x.b[:n]+noughts(api.Sector-n))
			}
		}
	}
}

// P6.1: bytes without anything of a slot.
func TestBytesThatAreNoSlot(t *testing.T) {
	if g, l, e := super.Of(nil); g != 0 || len(l) != 0 || e != api.ErrSuper {
		t.Errorf("Of nil: %d, %d, %d", g, l, e)
	}
	for n := range 2 * api.Sector {
		for _, x := range []string{"\x00", "\xff", "F", "S", "FS", "\x80", "\x88", "\x04", "FS\x00\x00"} {
			mustBeNone(t, "no slot", strings.Repeat(x, n))
		}
	}
}

// P6.1: another head, with a sum that is right.
func TestAnotherHead(t *testing.T) {
	for _, body := range []string{"\x00\x00", "\x03\x01\x07", "\x82\x01\x2c\x02\x01\x02"} {
		mustTellAny(t, summed("FS"+body))
		for _, head := range []string{"", "F", "S", "fs", "Fs", "fS", "SF", "FF", "SS", "FT", "GS", "FFS", "\x00FS", " FS", "\x00\x00", "\xa5", "\xc6\xd3"} {
			mustBeNone(t, "another head", summed(head+body))
			mustBeNone(t, "another head", summed(head+body)+noughts(40))
		}
		for _, head := range []string{"FSF", "FSS", "FSFS", "FS ", "FS\x00"} {
			mustBeNone(t, "a longer head", summed(head+body))
		}
		for i := range 2 {
			for x := range 256 {
				head := []byte("FS")
				if head[i] == byte(x) {
					continue
				}
				head[i] = byte(x)
				mustBeNone(t, "another head", summed(string(head)+body))
			}
		}
		mustBeNone(t, "bytes 0 ahead", noughts(1)+summed("FS"+body))
	}
}

// mustTellAny asks that b is a slot, so that what is made of it is none for the one reason that a test is about.
func mustTellAny(t *testing.T, b string) {
	t.Helper()
	if _, _, e := super.Of([]byte(b)); e != api.OK {
		t.Errorf("Of %x: %d", b, e)
	}
}

// P6.1: every other byte at each place of the sum, and sums made otherwise.
func TestAWrongSum(t *testing.T) {
	for _, x := range written() {
		body := x.b[:len(x.b)-4]
		c := sum(body)
		for i := range 4 {
			for turned := 1; turned < 256; turned++ {
				s := binary.BigEndian.AppendUint32([]byte(body), c^uint32(turned)<<(8*i))
				mustBeNone(t, "a wrong sum", string(s))
				mustBeNone(t, "a wrong sum", string(s)+noughts(api.Sector-len(s)))
			}
		}
		for _, wrong := range []uint32{0, ^c, c + 1, c - 1, bits.ReverseBytes32(c), bits.Reverse32(c), sum(body[2:]), sum(body + noughts(4)), crc32.ChecksumIEEE([]byte(body))} {
			mustBeNone(t, "a wrong sum", string(binary.BigEndian.AppendUint32([]byte(body), wrong)))
		}
		mustBeNone(t, "no sum", body)
		mustBeNone(t, "no sum", body+noughts(api.Sector-len(body)))
	}
}

// P6.1: each bit of a slot, turned.
func TestATurnedBit(t *testing.T) {
	for _, x := range written() {
		for i := range 8 * len(x.b) {
			b := []byte(x.b)
			b[i/8] ^= 1 << (i % 8)
			mustBeNone(t, "a turned bit", string(b))
			mustBeNone(t, "a turned bit", string(b)+noughts(api.Sector-len(b)))
		}
	}
}

// oddNumbers are small numbers that aren't written with the least bytes, and what is no number at all.
func oddNumbers() []string {
	return []string{
		"\x80", "\x81\x00", "\x81\x02", "\x81\x7f", "\x82\x00\x02", "\x82\x00\x80", "\x82\x00\xff", "\x83\x00\x01\x00",
		"\x84\x00\x00\x00\x02", "\x88\x00\x00\x00\x00\x00\x00\x00\x02", "\x88\x00\xff\xff\xff\xff\xff\xff\xff",
		"\x89\x01\x00\x00\x00\x00\x00\x00\x00\x00", "\x89\x00\x00\x00\x00\x00\x00\x00\x00\x02", "\x8a\x02", "\xff", "\xff\x02",
	}
}

// P6.1: a number that isn't as it is written, wherever it stands, with a sum that is right.
func TestANumberThatIsNotAsItIsWritten(t *testing.T) {
	mustTell(t, summed("FS\x02\x02\x02\x02"), 2, 2, 2)
	for _, odd := range oddNumbers() {
		for _, body := range []string{odd + "\x02\x02\x02", "\x02" + odd + "\x02\x02", "\x02\x02" + odd + "\x02", "\x02\x02\x02" + odd, odd + "\x00", "\x02" + odd} {
			mustBeNone(t, "an odd number", summed("FS"+body))
			mustBeNone(t, "an odd number", summed("FS"+body)+noughts(30))
		}
	}
}

// P6.1: a count above what there may be, with as many numbers or fewer, and one that isn't as many as there are.
func TestAnotherCount(t *testing.T) {
	for _, count := range []uint64{5, 6, 7, 8, 9, 16, 100, 127, 128, 129, 255, 256, 260, 1 << 16, 1 << 32, 1<<32 + 4, 1 << 63, top} {
		for n := range 12 {
			mustBeNone(t, "too many", summed("FS\x01"+number(count)+strings.Repeat("\x03", n)))
		}
	}
	mustBeNone(t, "five", "FS\x01\x05\x01\x02\x03\x04\x05\xac\xd8\x00\x97")
	for _, n := range []int{127, 128, 300, 1000} {
		mustBeNone(t, "too many", summed("FS\x01"+number(uint64(n))+strings.Repeat("\x03", n)))
	}
	for count := range most + 1 {
		for n := range 2 * most {
			b := summed("FS\x01" + number(uint64(count)) + strings.Repeat("\x03", n))
			if n == count {
				mustTell(t, b, 1, slices.Repeat([]uint64{3}, n)...)
				continue
			}
			mustBeNone(t, "another count", b)
			if n > count {
				mustBeNone(t, "another count", b+noughts(40))
			}
		}
	}
}

// P6.1: behind bytes with their sum, further bytes 0 have the sum 0. So where a number is missing, the sum's first byte
// may stand for it: what is left of the sum, with a byte 0, is then the sum of all that is ahead. It is a slot as any other.
func TestASumThatStandsForANumber(t *testing.T) {
	b := summed("FS\x01\x01")
	if b != "FS\x01\x01\x69\xe8\xe9\xa0" || slot(1, 0x69) != b+noughts(1) {
		t.Fatalf("%x", b)
	}
	mustBeNone(t, "a number is missing", b)
	mustTell(t, b+noughts(1), 1, 0x69)
	mustTell(t, b+noughts(api.Sector-len(b)), 1, 0x69)
}

// P6.1: numbers that are 0 are told apart from the bytes 0 behind a slot.
func TestNumbersThatAreNought(t *testing.T) {
	for count := range most + 1 {
		for gen := range uint64(3) {
			l := make([]uint64, count)
			b, e := super.Slot(gen, l...)
			if e != api.OK {
				t.Errorf("Slot of %d numbers 0: %d", count, e)
			}
			mustTell(t, string(b), gen, l...)
			mustTell(t, string(b)+noughts(api.Sector-len(b)), gen, l...)
		}
	}
}

// P2: nothing that is given to Slot or Of is changed, or read behind its length; nothing that they answer is shared.
func TestSlotsShareNothing(t *testing.T) {
	all := []uint64{1, 2, 3, 4, 5, 6}
	for n := range most + 1 {
		b, e := super.Slot(8, all[:n]...)
		if string(b) != slot(8, all[:n]...) || e != api.OK {
			t.Errorf("Slot of %d: %x, %d", n, b, e)
		}
		clear(b[:cap(b)])
		again, _ := super.Slot(8, all[:n]...)
		given := []byte(string(again) + noughts(9) + "behind")
		before := bytes.Clone(given)
		g, l, e := super.Of(given[:len(again)+9])
		if g != 8 || !slices.Equal(l, all[:n]) || e != api.OK {
			t.Errorf("Of: %d, %d, %d", g, l, e)
		}
		_, other, _ := super.Of(given[:len(again)])
		clear(l[:cap(l)])
		if !bytes.Equal(given, before) || !slices.Equal(other, all[:n]) {
			t.Errorf("Of changed %x, or its answers share: %d", given, other)
		}
		clear(given)
		if !slices.Equal(other, all[:n]) || string(again) != slot(8, all[:n]...) {
			t.Errorf("an answer is shared: %d, %x", other, again)
		}
	}
	if !slices.Equal(all, []uint64{1, 2, 3, 4, 5, 6}) {
		t.Errorf("Slot changed what it was given: %d", all)
	}
}
