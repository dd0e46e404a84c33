package frame_test

import (
	"bytes"
	"slices"
	"strings"
	"testing"

	"factotum/api"
	"factotum/crc"
	"factotum/frame"
)

const around = 7 // bytes of a frame beside its body

// text has n bytes of all values, in an order that does not come again soon.
func text(n int) []byte {
	b := make([]byte, n)
	for i := range b {
		b[i] = byte(i*167 + i>>8*59 + 13)
	}
	return b
}

// joined is all of l in one, in memory of its own that ends where it ends.
func joined(l ...[]byte) []byte { return slices.Clip(bytes.Join(l, nil)) }

// whole is a number in four bytes, the highest first.
func whole(n uint32) []byte { return []byte{byte(n >> 24), byte(n >> 16), byte(n >> 8), byte(n)} }

// byHand is a frame as the chapter tells it, of lengths too that no frame has.
func byHand(b []byte) []byte {
	length := []byte{byte(len(b) / 256), byte(len(b) % 256)}
	return joined([]byte{0xa5}, length, b, whole(crc.Sum(joined(length, b))))
}

// lengths has those that Put takes: none, one, those around a byte's and two bytes' bounds, the most.
func lengths() []int {
	return []int{0, 1, 2, 3, 4, 7, 8, 127, 128, 254, 255, 256, 257, 511, 512, 1000, 32767, 32768, 59999, 60000}
}

// bodies has bodies of all lengths, and some that look like parts of frames.
func bodies() [][]byte {
	l := [][]byte{nil, {}, []byte("a"), []byte("abc"), {0}, {0xa5}, {0xa5, 0, 0}, byHand(nil), byHand([]byte("in")),
		joined(byHand(nil), byHand([]byte("in"))), bytes.Repeat([]byte{0xa5}, 300), bytes.Repeat([]byte{0xff}, 300), []byte("m\xc3\xbclk \xff")}
	for _, n := range lengths() {
		l = append(l, text(n), make([]byte, n))
	}
	return l
}

// behind has what may stand behind a frame, or in the place of one: none of it begins with a frame.
func behind() [][]byte {
	return [][]byte{nil, {0}, {0xa5}, {0xa5, 0}, {0xa5, 0, 0}, {0xff}, []byte("milk"), make([]byte, 7), bytes.Repeat([]byte{0xa5}, 70),
		bytes.Repeat([]byte{0xff}, 70), text(300), byHand([]byte("half"))[:6], byHand(text(300))[:306], byHand([]byte("ahead"))[1:], joined([]byte{0}, byHand([]byte("late")))}
}

// mustBegin asks that b begins with a frame of want, of n bytes.
func mustBegin(t *testing.T, b, want []byte, n int) {
	t.Helper()
	body, size, e := frame.Of(b)
	if e != api.OK || size != n || !bytes.Equal(body, want) {
		t.Errorf("Of of %d bytes: %d bytes of body, %d of frame, %d; not %d, %d, 0", len(b), len(body), size, e, len(want), n)
	}
}

// mustNotBegin asks that b begins with no frame.
func mustNotBegin(t *testing.T, b []byte, why string) {
	t.Helper()
	if body, n, e := frame.Of(b); body != nil || n != 0 || e != api.ErrFrame {
		t.Errorf("%s: Of of %d bytes: %d bytes of body, %d of frame, %d", why, len(b), len(body), n, e)
	}
	mustNotBeOne(t, b, why)
	if l := frame.All(b); len(l) != 0 {
		t.Errorf("%s: All of %d bytes: %d bodies", why, len(b), len(l))
	}
}

// mustNotBeOne asks that b is not one frame and nothing else.
func mustNotBeOne(t *testing.T, b []byte, why string) {
	t.Helper()
	if body, e := frame.Only(b); body != nil || e != api.ErrFrame {
		t.Errorf("%s: Only of %d bytes: %d bytes of body, %d", why, len(b), len(body), e)
	}
}

// mustHave asks that All of b is want.
func mustHave(t *testing.T, b []byte, want [][]byte, why string) {
	t.Helper()
	if got := frame.All(b); !slices.EqualFunc(got, want, bytes.Equal) {
		t.Errorf("%s: All of %d bytes: %d bodies, not these %d", why, len(b), len(got), len(want))
	}
}

// P4.1: whole frames, written out.
func TestPutOfKnownBodies(t *testing.T) {
	for _, x := range []struct{ body, want string }{
		{"", "\xa5\x00\x00\x00\xb7\x64\x7d"},
		{"a", "\xa5\x00\x01\x61\xcd\x19\x67\xfc"}, // the chapter's example
		{"abc", "\xa5\x00\x03\x61\x62\x63\x0b\x70\x30\x7e"},
		{"\xa5", "\xa5\x00\x01\xa5\x83\x97\x81\xb9"},
		{"\x00", "\xa5\x00\x01\x00\x65\x7d\xbc\xdc"},
		{"123456789", "\xa5\x00\x09\x31\x32\x33\x34\x35\x36\x37\x38\x39\xd6\xc2\x42\xd5"},
	} {
		got, e := frame.Put([]byte(x.body))
		if e != api.OK || string(got) != x.want {
			t.Errorf("Put of %q: %x, %d, not %x", x.body, got, e, x.want)
		}
		mustBegin(t, []byte(x.want), []byte(x.body), len(x.want))
	}
}

// P4.1: heads and sums of longer frames, written out.
func TestPutOfKnownLengths(t *testing.T) {
	for _, x := range []struct {
		n          int
		head, tail string
	}{
		{255, "\xa5\x00\xff", "\x16\x2f\x50\x0b"},
		{256, "\xa5\x01\x00", "\x73\xe6\x0f\xda"},
		{257, "\xa5\x01\x01", "\x83\x75\x1b\xc9"},
		{60000, "\xa5\xea\x60", "\x43\x02\x71\x6e"},
	} {
		body := strings.Repeat("a", x.n)
		got, e := frame.Put([]byte(body))
		if e != api.OK || string(got) != x.head+body+x.tail {
			t.Errorf("Put of %d bytes: %d bytes, %d", x.n, len(got), e)
		}
	}
}

// P4.1: bodies of all kinds are put as the chapter tells it.
func TestPutOfAllBodies(t *testing.T) {
	for _, b := range bodies() {
		got, e := frame.Put(b)
		if e != api.OK || len(got) != len(b)+around || !bytes.Equal(got, byHand(b)) {
			t.Errorf("Put of %d bytes: %d bytes, %d", len(b), len(got), e)
		}
	}
}

// P4.1: more than 60,000 bytes aren't put, lengths too of which two bytes tell something lesser.
func TestPutOfTooMany(t *testing.T) {
	for _, n := range []int{60001, 60002, 65535, 65536, 65537, 65536 + 60000, 1 << 20, 1 << 24} {
		if got, e := frame.Put(make([]byte, n)); got != nil || e != api.ErrLong {
			t.Errorf("Put of %d bytes: %d bytes, %d", n, len(got), e)
		}
	}
	if got, e := frame.Put(make([]byte, 60000)); len(got) != 60007 || e != api.OK {
		t.Errorf("Put of the most: %d bytes, %d", len(got), e)
	}
}

// P4.1: a frame alone is told by Of, Only and All.
func TestFrameAlone(t *testing.T) {
	for _, b := range bodies() {
		f := byHand(b)
		mustBegin(t, f, b, len(f))
		if got, e := frame.Only(f); e != api.OK || !bytes.Equal(got, b) {
			t.Errorf("Only of a frame of %d bytes: %d bytes, %d", len(b), len(got), e)
		}
		mustHave(t, f, [][]byte{b}, "one frame")
	}
}

// P4.1: of a frame with something behind it Of tells the frame, Only refuses, All tells what is a frame.
func TestFrameWithSomethingBehind(t *testing.T) {
	for _, b := range bodies() {
		f := byHand(b)
		for _, x := range behind() {
			all := joined(f, x)
			mustBegin(t, all, b, len(f))
			mustHave(t, all, [][]byte{b}, "one frame and no other behind it")
			if len(x) > 0 {
				mustNotBeOne(t, all, "something behind")
			}
		}
		for _, x := range [][]byte{f, byHand(nil), byHand([]byte("next"))} {
			mustBegin(t, joined(f, x), b, len(f))
			mustNotBeOne(t, joined(f, x), "a frame behind")
		}
	}
}

// P4.1: nothing, and what isn't a frame.
func TestNoFrame(t *testing.T) {
	mustNotBegin(t, nil, "nil")
	mustNotBegin(t, []byte{}, "nothing")
	for _, b := range behind() {
		mustNotBegin(t, b, "no frame")
	}
	for _, n := range lengths() {
		mustNotBegin(t, text(n), "a body alone")
		mustNotBegin(t, make([]byte, n), "noughts")
		mustNotBegin(t, bytes.Repeat([]byte{0xa5}, n), "marks")
	}
}

// P4.1: any other first byte, and a frame that comes later.
func TestAnotherFirstByte(t *testing.T) {
	for _, body := range [][]byte{nil, []byte("a"), text(300)} {
		f := byHand(body)
		for x := range 256 {
			f[0] = byte(x)
			if x == 0xa5 {
				mustBegin(t, f, body, len(f))
			} else {
				mustNotBegin(t, f, "another first byte")
			}
		}
		f[0] = 0xa5
		for x := range 256 {
			mustNotBegin(t, joined([]byte{byte(x)}, f), "a byte ahead")
		}
	}
}

// P4.1: an end at every place within a frame, the memory behind it holding the rest or not.
func TestAnEndWithinAFrame(t *testing.T) {
	for _, n := range []int{0, 1, 2, 9, 255, 256, 257, 1000} {
		f := byHand(text(n))
		for at := range len(f) {
			mustNotBegin(t, f[:at], "cut, with the rest behind the length")
			mustNotBegin(t, joined(f[:at]), "cut")
		}
	}
	f := byHand(text(60000))
	for _, at := range []int{0, 1, 2, 3, 4, 30000, 60000, 60001, 60002, 60003, 60004, 60005, 60006} {
		mustNotBegin(t, f[:at], "cut, with the rest behind the length")
		mustNotBegin(t, joined(f[:at]), "cut")
	}
}

// P4.1: a length above 60,000, whatever the sum and what is behind.
func TestALengthAboveTheMost(t *testing.T) {
	for _, n := range []int{60001, 60002, 60416, 61440, 65534, 65535} {
		f := byHand(text(n))
		mustNotBegin(t, f, "a length above the most")
		mustNotBegin(t, joined(f, byHand(nil)), "a length above the most")
		mustNotBegin(t, f[:3], "a length above the most")
		mustHave(t, joined(byHand([]byte("a")), f, byHand(nil)), [][]byte{[]byte("a")}, "a length above the most behind a frame")
	}
	mustBegin(t, byHand(text(60000)), text(60000), 60007)
}

// P4.1: every other byte in each place of a sum.
func TestAWrongSum(t *testing.T) {
	for _, body := range [][]byte{nil, []byte("a"), text(300)} {
		f := byHand(body)
		for at := len(f) - 4; at < len(f); at++ {
			was := f[at]
			for x := range 256 {
				f[at] = byte(x)
				if f[at] != was {
					mustNotBegin(t, f, "a wrong sum")
					mustNotBegin(t, joined(f, byHand(nil)), "a wrong sum")
				}
			}
			f[at] = was
		}
		mustBegin(t, f, body, len(f))
	}
}

// P4.1: sums of something else than the length's bytes and the body, or in another order.
func TestASumOfSomethingElse(t *testing.T) {
	for _, body := range [][]byte{nil, []byte("a"), text(300), text(60000)} {
		f := byHand(body)
		ahead := f[:len(f)-4]
		right := f[len(f)-4:]
		turned := slices.Clone(right)
		slices.Reverse(turned)
		for _, sum := range [][]byte{whole(crc.Sum(body)), whole(crc.Sum(ahead)), whole(crc.Sum(ahead[2:])), whole(crc.More(0, ahead[1:])),
			whole(^crc.Sum(ahead[1:])), turned, make([]byte, 4), bytes.Repeat([]byte{0xff}, 4)} {
			mustNotBegin(t, joined(ahead, sum), "a sum of something else")
		}
	}
}

// P4.1: a length in the other order of bytes, or one off, with the sum that is right for it.
func TestAWrongLength(t *testing.T) {
	made := func(hi, lo byte, body []byte) []byte {
		return joined([]byte{0xa5, hi, lo}, body, whole(crc.Sum(joined([]byte{hi, lo}, body))))
	}
	mustNotBegin(t, made(1, 0, []byte("a")), "the lowest byte first")
	mustNotBegin(t, made(0, 1, text(256)), "the lowest byte first")
	for _, n := range []int{1, 2, 255, 256, 257, 1000} {
		mustNotBegin(t, made(byte((n-1)>>8), byte(n-1), text(n)), "a length too low")
		mustNotBegin(t, made(byte((n+1)>>8), byte(n+1), text(n)), "a length too great")
		mustBegin(t, made(byte(n>>8), byte(n), text(n)), text(n), n+around)
	}
}

// P4.1: All of several frames, alone and with what is none behind them.
func TestAllOfSeveral(t *testing.T) {
	l := bodies()
	var all []byte
	for i, b := range l {
		all = joined(all, byHand(b))
		mustHave(t, all, l[:i+1], "several frames")
		mustHave(t, joined(all, behind()[i%len(behind())]), l[:i+1], "several frames and none behind them")
	}
	for _, x := range behind() {
		mustHave(t, joined(byHand([]byte("a")), byHand(nil), byHand([]byte("b")), x), [][]byte{[]byte("a"), nil, []byte("b")}, "three frames and none behind them")
	}
	many := make([][]byte, 5000)
	mustHave(t, bytes.Repeat(byHand(nil), 5000), many, "many frames of no bytes")
	for i := range many {
		many[i] = []byte("same")
	}
	mustHave(t, bytes.Repeat(byHand([]byte("same")), 5000), many, "many frames")
}

// P4.1: All ends at the first place with no frame, though others come behind it.
func TestAllEndsAtTheFirstPlaceWithNone(t *testing.T) {
	l := [][]byte{[]byte("one"), nil, []byte("three"), text(300), []byte("five")}
	for i := range l {
		for _, gap := range behind()[1:] {
			var all []byte
			for k, b := range l {
				if k == i {
					all = joined(all, gap)
				}
				all = joined(all, byHand(b))
			}
			mustHave(t, all, l[:i], "something between frames")
		}
	}
}

// P4.1: All of frames one behind the other that end at every place.
func TestAllOfAnEndAtEveryPlace(t *testing.T) {
	l := [][]byte{[]byte("one"), nil, []byte("three"), text(300), []byte("five")}
	var all []byte
	var ends []int
	for _, b := range l {
		all = joined(all, byHand(b))
		ends = append(ends, len(all))
	}
	for at := range len(all) + 1 {
		n := 0
		for n < len(ends) && ends[n] <= at {
			n++
		}
		mustHave(t, all[:at], l[:n], "an end within several frames")
	}
}

// P4.2: what was put is told again, whatever stands behind it.
func TestThereAndBack(t *testing.T) {
	for _, b := range bodies() {
		f, _ := frame.Put(b)
		for _, x := range append(behind(), f, byHand(nil), joined(byHand([]byte("next")), byHand(nil)), text(70000)) {
			mustBegin(t, joined(f, x), b, len(b)+around)
		}
		for x := range 256 {
			mustBegin(t, joined(f, []byte{byte(x)}), b, len(b)+around)
		}
		if got, e := frame.Only(f); e != api.OK || !bytes.Equal(got, b) {
			t.Errorf("Only of Put of %d bytes: %d bytes, %d", len(b), len(got), e)
		}
	}
}

// mustHeedBit turns one bit of f, counted from the first byte's highest, and turns it back.
func mustHeedBit(t *testing.T, f []byte, bit int) {
	t.Helper()
	f[bit/8] ^= 128 >> (bit % 8)
	mustNotBegin(t, f, "a bit turned")
	f[bit/8] ^= 128 >> (bit % 8)
}

// P4.3: each bit of frames of no bytes, of one and of more.
func TestEachBitOfAFrame(t *testing.T) {
	for _, n := range []int{0, 1, 2, 3, 4, 8, 9, 64, 255, 256, 257, 1000} {
		for _, b := range [][]byte{text(n), make([]byte, n), bytes.Repeat([]byte{0xff}, n), bytes.Repeat([]byte{0xa5}, n)} {
			f, _ := frame.Put(b)
			for bit := range 8 * len(f) {
				mustHeedBit(t, f, bit)
			}
			mustBegin(t, f, b, len(f))
		}
	}
}

// P4.3: bits of a frame of the most bytes: all of its head and its sum, some of its body.
func TestBitsOfTheLongestFrame(t *testing.T) {
	f, _ := frame.Put(text(60000))
	last := 8 * len(f)
	for bit := range 32 {
		mustHeedBit(t, f, bit)
		mustHeedBit(t, f, last-1-bit)
	}
	for _, bit := range []int{32, 33, 8 * 256, 8*256 - 1, last / 3, last / 2, last/2 + 1, last * 3 / 4, last - 34, last - 33} {
		mustHeedBit(t, f, bit)
	}
	mustBegin(t, f, text(60000), len(f))
}

// P4.3: each bit of a frame among others: those ahead of it are told, it and those behind it aren't.
func TestEachBitOfAFrameAmongOthers(t *testing.T) {
	one, two, three := byHand([]byte("one")), byHand([]byte("two")), byHand([]byte("three"))
	all := joined(one, two, three)
	for bit := range 8 * len(all) {
		all[bit/8] ^= 128 >> (bit % 8)
		want := [][]byte{[]byte("one"), []byte("two")}
		if at := bit / 8; at < len(one) {
			want = nil
		} else if at < len(one)+len(two) {
			want = want[:1]
		}
		mustHave(t, all, want, "a bit turned")
		all[bit/8] ^= 128 >> (bit % 8)
	}
}

// P4.3 with P4.1: a body may be made so that with a bit of the length turned a lesser frame stands ahead; the whole is none even then.
func TestALesserFrameWithin(t *testing.T) {
	inner := []byte("inner")
	f := byHand(joined(byHand(inner)[3:], text(256-4))) // of 256 + 5 bytes
	if len(f) != 256+len(inner)+around {
		t.Fatal(len(f))
	}
	f[1] ^= 1
	mustNotBeOne(t, f, "a bit turned")
	mustBegin(t, f, inner, len(inner)+around)
	mustHave(t, f, [][]byte{inner}, "a bit turned")
}

// P1: any bytes, at every length that a head may tell.
func TestAnyHead(t *testing.T) {
	for n := range 65536 {
		head := []byte{0xa5, byte(n >> 8), byte(n)}
		mustNotBegin(t, head, "a head alone")
		if n > 0 {
			mustNotBegin(t, joined(head, make([]byte, 4)), "a head and four noughts")
		}
	}
}

// P2: arguments stay as they are, and what lies behind their length is neither read nor written.
func TestLeavesArgumentsAlone(t *testing.T) {
	back := []byte("abcdefghijklmnopqrstuvwxyz")
	if f, e := frame.Put(back[:3]); e != api.OK || !bytes.Equal(f, byHand([]byte("abc"))) || string(back) != "abcdefghijklmnopqrstuvwxyz" {
		t.Errorf("Put: %x, %d, %q", f, e, back)
	}
	one := byHand([]byte("one"))
	all := joined(one, byHand([]byte("two")))
	was := slices.Clone(all)
	mustBegin(t, all[:len(one)], []byte("one"), len(one))
	mustHave(t, all[:len(one)], [][]byte{[]byte("one")}, "a frame behind the length")
	if got, e := frame.Only(all[:len(one)]); e != api.OK || string(got) != "one" {
		t.Errorf("Only: %q, %d", got, e)
	}
	if !bytes.Equal(all, was) {
		t.Errorf("changed: %x", all)
	}
}

// scribble writes over all of b's memory, behind its length too.
func scribble(b []byte) {
	b = b[:cap(b)]
	for i := range b {
		b[i] = 0xee
	}
}

// P2: answers share no memory with arguments.
func TestAnswersAreNewMemory(t *testing.T) {
	body := []byte("milk")
	f, _ := frame.Put(body)
	scribble(body)
	if !bytes.Equal(f, byHand([]byte("milk"))) {
		t.Errorf("Put keeps its argument: %x", f)
	}
	all := joined(f, f)
	was := slices.Clone(all)
	of, _, _ := frame.Of(all)
	only, _ := frame.Only(f)
	l := frame.All(all)
	for _, b := range append(slices.Clone(l), of, only) {
		scribble(b)
	}
	if !bytes.Equal(all, was) || !bytes.Equal(f, was[:len(f)]) {
		t.Errorf("an answer writes into an argument: %x", all)
	}
	of, _, _ = frame.Of(all)
	only, _ = frame.Only(f)
	l = frame.All(all)
	scribble(all)
	scribble(f)
	for _, b := range append(l, of, only) {
		if string(b) != "milk" {
			t.Errorf("an argument is kept: %q", b)
		}
	}
}

// P2: no two bodies of one answer share memory.
func TestBodiesAreApart(t *testing.T) {
	all := joined(byHand([]byte("one")), byHand(nil), byHand([]byte("three")), byHand(text(300)))
	want := [][]byte{[]byte("one"), nil, []byte("three"), text(300)}
	for i := range want {
		l := frame.All(all)
		scribble(l[i])
		for k, b := range l {
			if k != i && !bytes.Equal(b, want[k]) {
				t.Errorf("body %d is written over through body %d", k, i)
			}
		}
	}
	if l := frame.All(all); !slices.EqualFunc(l, want, bytes.Equal) {
		t.Error("a later answer is written over through an earlier one")
	}
}

// P3: nil and no bytes are the same, and an answer hangs on the arguments alone.
func TestSameArgumentsSameAnswer(t *testing.T) {
	for range 3 {
		a, e := frame.Put(nil)
		b, f := frame.Put([]byte{})
		if e != api.OK || f != api.OK || !bytes.Equal(a, b) || !bytes.Equal(a, byHand(nil)) {
			t.Errorf("Put of nothing: %x, %d, %x, %d", a, e, b, f)
		}
		mustNotBegin(t, nil, "nil")
		mustNotBegin(t, []byte{}, "nothing")
		mustBegin(t, byHand([]byte("a")), []byte("a"), 8)
		mustHave(t, byHand([]byte("a")), [][]byte{[]byte("a")}, "one frame")
		frame.Put(text(33))
		frame.All(joined(byHand(text(5)), byHand(text(6))))
		frame.Of([]byte{0xa5, 9, 9})
	}
}
