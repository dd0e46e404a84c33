package disk_test

import (
	"bytes"
	"math"
	"slices"
	"testing"

	"factotum/api"
	"factotum/disk"
)

const (
	size = 64   // bytes of a sector
	most = 4096 // sectors of a disk
)

// filled is b with noughts behind it, as long as a sector.
func filled(b string) []byte {
	s := make([]byte, size)
	copy(s, b)
	return s
}

// text has n bytes, none of them 0, unlike for each start.
func text(start, n int) []byte {
	b := make([]byte, n)
	for i := range b {
		b[i] = byte((start*31+i*7)%255 + 1)
	}
	return b
}

// far has places that no disk has, those too that have a disk's low bits.
func far(n int) []int {
	return []int{-1, -2, -n, -n - 1, n, n + 1, 2*n + 1, most, most + 1, 1 << 16, 1 << 31, 1 << 32, 1<<32 + 1, -1 << 32, math.MaxInt, math.MinInt, math.MinInt + 1}
}

func mustBe(t *testing.T, what string, got, want api.Errno) {
	t.Helper()
	if got != want {
		t.Errorf("%s: %d, not %d", what, got, want)
	}
}

func mustWrite(t *testing.T, d *disk.Disk, at int, b string) {
	t.Helper()
	if e := d.Write(at, []byte(b)); e != api.OK {
		t.Errorf("Write of %q to %d: %d", b, at, e)
	}
}

func mustFlush(t *testing.T, d *disk.Disk) {
	t.Helper()
	if e := d.Flush(); e != api.OK || d.Cached() != 0 {
		t.Errorf("Flush: %d, and %d are cached", e, d.Cached())
	}
}

// mustHold asks that a sector is b with noughts behind it.
func mustHold(t *testing.T, d *disk.Disk, at int, b string) {
	t.Helper()
	got, e := d.Read(at)
	if e != api.OK || !bytes.Equal(got, filled(b)) {
		t.Errorf("Read of %d: %q, %d, not %q", at, got, e, b)
	}
}

func mustNotRead(t *testing.T, d *disk.Disk, at int, want api.Errno) {
	t.Helper()
	if b, e := d.Read(at); b != nil || e != want {
		t.Errorf("Read of %d: %d bytes, %d, not %d", at, len(b), e, want)
	}
}

func mustHaveCached(t *testing.T, d *disk.Disk, n int) {
	t.Helper()
	if got := d.Cached(); got != n {
		t.Errorf("Cached: %d, not %d", got, n)
	}
}

// mustBeFresh asks that d is as New makes it: all noughts, nothing cached, no faults, not Dead, not armed.
func mustBeFresh(t *testing.T, d *disk.Disk, n int) {
	t.Helper()
	if d.Size() != n || d.Cached() != 0 || d.Dead() {
		t.Errorf("a disk of %d sectors, not %d; %d are cached; Dead %t", d.Size(), n, d.Cached(), d.Dead())
	}
	for at := range n {
		mustHold(t, d, at, "")
	}
	mustNotBeArmed(t, d)
}

// mustNotBeArmed flushes d often.
func mustNotBeArmed(t *testing.T, d *disk.Disk) {
	t.Helper()
	for range 20 {
		if e := d.Flush(); e != api.OK || d.Dead() {
			t.Fatalf("Flush: %d, Dead %t", e, d.Dead())
		}
	}
}

// mustRefuseAll asks that each call of a Dead disk answers so, and that it stays Dead.
func mustRefuseAll(t *testing.T, d *disk.Disk) {
	t.Helper()
	places := append(far(d.Size()), 0, d.Size()/2, d.Size()-1)
	for _, at := range places {
		for _, n := range []int{0, 1, size, size + 1} {
			mustBe(t, "Write to a Dead disk", d.Write(at, make([]byte, n)), api.ErrDisk)
		}
		mustNotRead(t, d, at, api.ErrDisk)
	}
	mustBe(t, "Flush of a Dead disk", d.Flush(), api.ErrDisk)
	if !d.Dead() {
		t.Error("a Dead disk lives again")
	}
}

// kill makes d Dead with nothing done to its sectors or its cache.
func kill(t *testing.T, d *disk.Disk) {
	t.Helper()
	d.Arm(0)
	mustBe(t, "Flush of a disk armed with 0", d.Flush(), api.ErrDisk)
	if !d.Dead() {
		t.Fatal("not Dead")
	}
}

// P5.1: disks of fewer than no sectors, of none, of one, of the most, of more.
func TestNewOfAllSizes(t *testing.T) {
	for _, x := range []struct{ n, want int }{
		{math.MinInt, 0}, {-1 << 32, 0}, {-most, 0}, {-2, 0}, {-1, 0}, {0, 0}, {1, 1}, {2, 2}, {3, 3}, {63, 63}, {64, 64}, {65, 65}, {1000, 1000},
		{most - 1, most - 1}, {most, most}, {most + 1, most}, {2 * most, most}, {1 << 16, most}, {1 << 32, most}, {1<<32 + 1, most}, {math.MaxInt, most},
	} {
		d := disk.New(x.n)
		mustBeFresh(t, d, x.want)
		for _, at := range far(x.want) {
			mustBe(t, "Write outside", d.Write(at, nil), api.ErrRange)
			mustNotRead(t, d, at, api.ErrRange)
		}
	}
}

// P5.1: Write and Read at the first and the last sector, one ahead of and one behind them, and far outside.
func TestTheEdgesOfADisk(t *testing.T) {
	for _, n := range []int{1, 2, 3, 64, most} {
		d := disk.New(n)
		mustWrite(t, d, 0, "first")
		if n > 1 {
			mustWrite(t, d, n-1, "last")
		}
		cached := d.Cached()
		for _, at := range far(n) {
			for _, b := range [][]byte{nil, {}, []byte("x"), make([]byte, size), make([]byte, size+1)} {
				mustBe(t, "Write outside", d.Write(at, b), api.ErrRange)
			}
			mustNotRead(t, d, at, api.ErrRange)
		}
		mustHaveCached(t, d, cached)
		mustHold(t, d, 0, "first")
		if n > 1 {
			mustHold(t, d, n-1, "last")
		}
		for at := 1; at < n-1; at++ {
			mustHold(t, d, at, "")
		}
	}
}

// P5.1: a sector is what was written, with noughts behind it; of more than 64 bytes nothing happens.
func TestWritesOfAllLengths(t *testing.T) {
	for n := range size + 1 {
		d := disk.New(3)
		b := string(text(n, n))
		mustWrite(t, d, 1, b)
		mustHaveCached(t, d, 1)
		mustHold(t, d, 1, b)
		mustFlush(t, d)
		mustHold(t, d, 1, b)
		mustHold(t, d, 0, "")
		mustHold(t, d, 2, "")
	}
	d := disk.New(3)
	mustWrite(t, d, 1, "here")
	for _, n := range []int{size + 1, size + 2, 2*size - 1, 2 * size, 2*size + 1, 255, 256, 256 + 1, 1 << 16, 1 << 20} {
		mustBe(t, "a long Write", d.Write(1, text(0, n)), api.ErrLong)
	}
	mustHaveCached(t, d, 1)
	mustHold(t, d, 1, "here")
	mustHold(t, d, 2, "")
}

// P5.1: a shorter write over a longer one leaves nothing of that.
func TestAShorterWriteOverALongerOne(t *testing.T) {
	long := string(text(1, size))
	for n := range size {
		short := string(text(2, n))
		for _, flushed := range []bool{false, true} {
			d := disk.New(1)
			mustWrite(t, d, 0, long)
			if flushed {
				mustFlush(t, d)
			}
			mustWrite(t, d, 0, short)
			mustHold(t, d, 0, short)
			c := d.Clone()
			mustFlush(t, d)
			mustHold(t, d, 0, short)
			d.Crash()
			mustHold(t, d, 0, short)
			if flushed {
				mustHold(t, c, 0, long)
			} else {
				mustHold(t, c, 0, "")
			}
		}
	}
}

// P5.1, P5.2: nil, no bytes and noughts are one write.
func TestAWriteOfNoBytes(t *testing.T) {
	for _, b := range [][]byte{nil, {}, {0}, make([]byte, size)} {
		d := disk.New(1)
		mustWrite(t, d, 0, "kept")
		mustFlush(t, d)
		mustBe(t, "Write of nothing", d.Write(0, b), api.OK)
		mustHaveCached(t, d, 1)
		mustHold(t, d, 0, "")
		d.Crash(true)
		mustHold(t, d, 0, "")
		mustHaveCached(t, d, 0)
	}
}

// P5.1: Read tells what was written last, cached or kept.
func TestReadTellsTheLastWrite(t *testing.T) {
	d := disk.New(4)
	for i := range 200 {
		at, b := i%3, string(text(i, i%(size+1)))
		mustWrite(t, d, at, b)
		mustHold(t, d, at, b)
		if i%17 == 16 {
			mustFlush(t, d)
			mustHold(t, d, at, b)
		}
	}
	mustHold(t, d, 3, "")
	mustHold(t, d, 0, string(text(198, 198%65)))
	mustHold(t, d, 1, string(text(199, 199%65)))
	mustHold(t, d, 2, string(text(197, 197%65)))
}

// P5.1: each write counts as cached, the same one too; refused ones, reads and others don't.
func TestCached(t *testing.T) {
	d := disk.New(2)
	mustHaveCached(t, d, 0)
	for i := range 300 {
		mustWrite(t, d, i/2%2, "same")
		mustHaveCached(t, d, i+1)
	}
	d.Write(2, nil)
	d.Write(-1, nil)
	d.Write(0, make([]byte, size+1))
	mustHold(t, d, 0, "same")
	d.Fault(0, true)
	mustNotRead(t, d, 0, api.ErrRead)
	d.Arm(5)
	d.Clone()
	mustHaveCached(t, d, 300)
	mustFlush(t, d)
	mustHaveCached(t, d, 0)
	mustWrite(t, d, 0, "more")
	mustHaveCached(t, d, 1)
}

// P5.1: what is cached ahead of a Flush is kept for good, each sector's last write.
func TestFlushKeeps(t *testing.T) {
	d := disk.New(5)
	for _, b := range []string{"a", "b", "c"} {
		mustWrite(t, d, 0, b)
		mustWrite(t, d, 4, "4"+b)
	}
	mustWrite(t, d, 2, "two")
	mustFlush(t, d)
	mustWrite(t, d, 2, "more")
	mustWrite(t, d, 3, "three")
	d.Crash()
	for at, b := range []string{"c", "", "two", "", "4c"} {
		mustHold(t, d, at, b)
	}
	mustFlush(t, d)
	mustFlush(t, d)
	d.Crash(true, true, true, true, true, true, true)
	for at, b := range []string{"c", "", "two", "", "4c"} {
		mustHold(t, d, at, b)
	}
}

// P5.1, P4: of several errors the one named first.
func TestTheFirstError(t *testing.T) {
	d := disk.New(2)
	long := make([]byte, size+1)
	d.Fault(0, true)
	mustBe(t, "Write outside, too long", d.Write(2, long), api.ErrRange)
	mustBe(t, "Write too long, of a fault", d.Write(0, long), api.ErrLong)
	mustBe(t, "Write of a fault", d.Write(0, nil), api.OK)
	mustNotRead(t, d, 0, api.ErrRead)
	mustNotRead(t, d, 2, api.ErrRange)
	kill(t, d)
	mustRefuseAll(t, d)
	d.Crash()
	mustNotRead(t, d, 0, api.ErrRead)
}

// P5.2: behind n Writes and Flushes the next one doesn't happen, be it the one or the other.
func TestArm(t *testing.T) {
	for n := range 12 {
		for kinds := range 1 << (n + 1) {
			if n > 6 && kinds%97 != 0 {
				continue
			}
			d := disk.New(3)
			mustWrite(t, d, 2, "kept")
			mustFlush(t, d)
			d.Arm(n)
			cached := 0
			for i := range n {
				if kinds>>i&1 == 0 {
					mustWrite(t, d, i%2, string(text(i, 5)))
					cached++
				} else {
					mustFlush(t, d)
					cached = 0
				}
				mustHaveCached(t, d, cached)
				if d.Dead() {
					t.Fatalf("armed with %d: Dead behind %d", n, i+1)
				}
			}
			if kinds>>n == 0 {
				mustBe(t, "the Write that doesn't happen", d.Write(2, []byte("lost")), api.ErrDisk)
			} else {
				mustBe(t, "the Flush that doesn't happen", d.Flush(), api.ErrDisk)
			}
			mustHaveCached(t, d, cached)
			mustRefuseAll(t, d)
			d.Crash(slices.Repeat([]bool{true}, 20)...)
			mustHold(t, d, 2, "kept")
			mustNotBeArmed(t, d)
		}
	}
}

// P5.2: a Flush that doesn't happen keeps nothing; what is cached then is a crash's.
func TestAFlushThatDoesNotHappen(t *testing.T) {
	for keep := range 8 {
		d := disk.New(2)
		mustWrite(t, d, 0, "ahead")
		mustFlush(t, d)
		mustWrite(t, d, 0, "a")
		mustWrite(t, d, 1, "b")
		mustWrite(t, d, 0, "c")
		kill(t, d)
		mustHaveCached(t, d, 3)
		mustHold(t, d.Clone(), 0, "ahead")
		d.Crash(keep&1 != 0, keep&2 != 0, keep&4 != 0)
		mustHold(t, d, 0, []string{"ahead", "a", "ahead", "a", "c", "c", "c", "c"}[keep])
		mustHold(t, d, 1, []string{"", "", "b", "b", "", "", "b", "b"}[keep])
	}
}

// P5.2: what is refused by ErrRange or ErrLong isn't counted, nor what isn't a Write or a Flush.
func TestArmCountsWhatIsDoneAlone(t *testing.T) {
	for n := range 5 {
		d := disk.New(2)
		d.Arm(n)
		for i := range n + 1 {
			for range 10 {
				mustBe(t, "Write outside", d.Write(2, nil), api.ErrRange)
				mustBe(t, "Write outside", d.Write(-1, make([]byte, size+1)), api.ErrRange)
				mustBe(t, "a long Write", d.Write(0, make([]byte, size+1)), api.ErrLong)
				mustNotRead(t, d, 2, api.ErrRange)
				mustHold(t, d, 1, "")
				d.Fault(1, true)
				mustNotRead(t, d, 1, api.ErrRead)
				d.Fault(1, false)
				d.Clone()
				mustHaveCached(t, d, i)
				if d.Dead() || d.Size() != 2 {
					t.Fatal("Dead of what isn't counted")
				}
			}
			if i < n {
				mustWrite(t, d, 0, "x")
			}
		}
		mustBe(t, "Write of a disk that is armed", d.Write(0, nil), api.ErrDisk)
		mustRefuseAll(t, d)
	}
}

// P5.2: below 0 never; the last Arm holds.
func TestArmAgain(t *testing.T) {
	for _, n := range []int{-1, -2, -most, -1 << 32, math.MinInt, 1 << 32, math.MaxInt} {
		d := disk.New(1)
		for _, ahead := range []int{n, 0, 3} {
			d.Arm(ahead)
			d.Arm(n)
			for range 100 {
				mustWrite(t, d, 0, "x")
				mustFlush(t, d)
			}
		}
		d.Arm(n)
		d.Arm(1)
		mustWrite(t, d, 0, "x")
		mustBe(t, "Flush of a disk that is armed again", d.Flush(), api.ErrDisk)
	}
	d := disk.New(1)
	d.Arm(2)
	mustWrite(t, d, 0, "x")
	d.Arm(2)
	mustWrite(t, d, 0, "y")
	mustWrite(t, d, 0, "z")
	mustBe(t, "the third Write", d.Write(0, nil), api.ErrDisk)
}

// P5.2: to arm a Dead disk makes it neither live nor armed behind a Crash or a Wipe.
func TestArmOfADeadDisk(t *testing.T) {
	for _, n := range []int{math.MinInt, -1, 0, 1, 5, math.MaxInt} {
		for _, end := range []func(*disk.Disk){func(d *disk.Disk) { d.Crash() }, (*disk.Disk).Wipe} {
			d := disk.New(2)
			kill(t, d)
			d.Arm(n)
			mustRefuseAll(t, d)
			d.Arm(n)
			end(d)
			mustBeFresh(t, d, 2)
		}
	}
}

// P5.2, P5.3: Crash and Wipe take the arming away of disks that live, too.
func TestCrashAndWipeDisarm(t *testing.T) {
	for n := range 5 {
		d := disk.New(2)
		d.Arm(n)
		d.Crash()
		mustNotBeArmed(t, d)
		d.Arm(n)
		d.Wipe()
		mustBeFresh(t, d, 2)
	}
}

// P5.2: a disk of no sectors is armed, too, by its Flushes.
func TestArmOfADiskOfNoSectors(t *testing.T) {
	d := disk.New(0)
	d.Arm(2)
	mustBe(t, "Write outside", d.Write(0, nil), api.ErrRange)
	mustFlush(t, d)
	mustFlush(t, d)
	mustBe(t, "Write outside", d.Write(0, nil), api.ErrRange)
	mustBe(t, "the third Flush", d.Flush(), api.ErrDisk)
	mustRefuseAll(t, d)
	d.Crash(true)
	mustBeFresh(t, d, 0)
	kill(t, d)
	d.Wipe()
	mustBeFresh(t, d, 0)
}

// P5.1, P5.2: the calls that a Dead disk doesn't refuse.
func TestWhatADeadDiskDoes(t *testing.T) {
	d := disk.New(3)
	mustWrite(t, d, 0, "kept")
	mustFlush(t, d)
	mustWrite(t, d, 1, "cached")
	kill(t, d)
	if d.Size() != 3 || d.Cached() != 1 {
		t.Errorf("Size %d, Cached %d", d.Size(), d.Cached())
	}
	d.Fault(0, true)
	d.Fault(2, true)
	d.Fault(2, false)
	c := d.Clone()
	mustHold(t, c, 0, "kept")
	mustHold(t, c, 1, "")
	mustNotBeArmed(t, c)
	mustRefuseAll(t, d)
	mustHaveCached(t, d, 1)
	d.Crash(true)
	mustNotRead(t, d, 0, api.ErrRead)
	mustHold(t, d, 1, "cached")
	mustHold(t, d, 2, "")
	kill(t, d)
	d.Wipe()
	mustBeFresh(t, d, 3)
}

// P5.2: the examples of the chapter.
func TestTheChaptersExamples(t *testing.T) {
	d := disk.New(2)
	mustWrite(t, d, 0, "a")
	d.Crash()
	mustHold(t, d, 0, "")
	mustWrite(t, d, 0, "a")
	mustWrite(t, d, 1, "b")
	d.Crash(false, true)
	mustHold(t, d, 0, "")
	mustHold(t, d, 1, "b")
}

// P5.2, P5.4, P5.5: all orders of up to 5 writes to 3 sectors, of which some are flushed ahead, with all flags, fewer and more, too.
func TestCrashKeepsWhatItIsTold(t *testing.T) {
	for n := range 6 {
		places := 1
		for range n {
			places *= 3
		}
		for order := range places {
			for flags := range n + 3 {
				for keep := range 1 << flags {
					mustCrashSo(t, order, n, flags, keep)
				}
			}
		}
	}
}

// mustCrashSo crashes a disk with n cached writes, to the sectors that order has as a number of base 3, with so many flags.
func mustCrashSo(t *testing.T, order, n, flags, keep int) {
	t.Helper()
	d := disk.New(3)
	want := []string{"kept", "", "too"}
	mustWrite(t, d, 0, want[0])
	mustWrite(t, d, 2, want[2])
	mustFlush(t, d)
	l := make([]bool, flags)
	for i := range l {
		l[i] = keep>>i&1 != 0
	}
	for i := range n {
		b := string([]byte{'w', byte('0' + i)})
		mustWrite(t, d, order%3, b)
		if i < flags && l[i] {
			want[order%3] = b
		}
		order /= 3
	}
	mustHaveCached(t, d, n)
	d.Crash(l...)
	mustHaveCached(t, d, 0)
	for at, b := range want {
		mustHold(t, d, at, b)
	}
	d.Crash(true, true, true, true, true, true, true, true)
	for at, b := range want {
		mustHold(t, d, at, b)
	}
}

// P5.2: of many writes to one sector each is kept alone, and the last of those that are kept is what stays.
func TestManyWritesToOneSector(t *testing.T) {
	const n = 300
	for only := range n {
		d := disk.New(2)
		keep := make([]bool, only+1)
		keep[only] = true
		for i := range n {
			mustWrite(t, d, 1, string(text(i, 9)))
		}
		d.Crash(keep...)
		mustHold(t, d, 1, string(text(only, 9)))
		mustHold(t, d, 0, "")
	}
}

// P5.2: writes to all sectors, every third kept; which order sectors come in is not to be seen.
func TestCrashOfAFullDisk(t *testing.T) {
	for range 20 {
		d := disk.New(most)
		keep := make([]bool, 3*most)
		want := make([]string, most)
		for i := range keep {
			at := i * 1237 % most
			b := string(text(i, 1+i%size))
			mustWrite(t, d, at, b)
			if keep[i] = i%3 == 0; keep[i] {
				want[at] = b
			}
		}
		mustHaveCached(t, d, 3*most)
		d.Crash(keep...)
		for at, b := range want {
			mustHold(t, d, at, b)
		}
	}
}

// P5.2: a Crash with nothing cached, whatever it is told to keep.
func TestCrashOfNothing(t *testing.T) {
	d := disk.New(2)
	d.Crash()
	d.Crash(true)
	mustBeFresh(t, d, 2)
	mustWrite(t, d, 0, "a")
	mustFlush(t, d)
	for _, keep := range [][]bool{nil, {}, {false}, {true}, {true, true, true}} {
		d.Crash(keep...)
		mustHold(t, d, 0, "a")
		mustHold(t, d, 1, "")
	}
	// What a crash lost doesn't come back with the writes behind it.
	mustWrite(t, d, 1, "lost")
	d.Crash()
	mustWrite(t, d, 0, "b")
	mustHaveCached(t, d, 1)
	d.Crash(true, true)
	mustHold(t, d, 0, "b")
	mustHold(t, d, 1, "")
}

// P5.2: the turns of writes begin anew behind a Flush, a Crash and a Wipe.
func TestTurnsBeginAnew(t *testing.T) {
	for _, anew := range []func(*disk.Disk){func(d *disk.Disk) { d.Flush() }, func(d *disk.Disk) { d.Crash(true, true, true) }, (*disk.Disk).Wipe} {
		d := disk.New(2)
		for range 3 {
			mustWrite(t, d, 0, "ahead")
		}
		anew(d)
		mustWrite(t, d, 0, "a")
		mustWrite(t, d, 1, "b")
		d.Crash(true)
		mustHold(t, d, 0, "a")
		mustHold(t, d, 1, "")
	}
}

// P5.3: faults set and taken away, of sectors that are and that are not.
func TestFaults(t *testing.T) {
	for _, n := range []int{0, 1, 2, 5, most} {
		d := disk.New(n)
		for _, at := range far(n) {
			d.Fault(at, true)
			d.Fault(at, false)
			d.Fault(at, true)
			mustNotRead(t, d, at, api.ErrRange)
		}
		mustBeFresh(t, d, n)
		for _, at := range []int{0, n / 2, n - 1} {
			if n == 0 {
				continue
			}
			d.Fault(at, true)
			d.Fault(at, true)
			mustNotRead(t, d, at, api.ErrRead)
			for other := range n {
				if other != at {
					mustHold(t, d, other, "")
				}
			}
			d.Fault(at, false)
			mustHold(t, d, at, "")
			d.Fault(at, false)
			mustHold(t, d, at, "")
		}
	}
}

// P5.3: a fault stays over Write, Flush and Crash, whatever they make of the sector; it goes with Wipe.
func TestFaultsStay(t *testing.T) {
	d := disk.New(3)
	mustWrite(t, d, 1, "kept")
	mustFlush(t, d)
	d.Fault(1, true)
	mustWrite(t, d, 1, "cached")
	mustNotRead(t, d, 1, api.ErrRead)
	d.Fault(1, false)
	mustHold(t, d, 1, "cached")
	d.Fault(1, true)
	mustFlush(t, d)
	mustNotRead(t, d, 1, api.ErrRead)
	mustWrite(t, d, 1, "more")
	d.Crash(true)
	mustNotRead(t, d, 1, api.ErrRead)
	d.Crash()
	mustNotRead(t, d, 1, api.ErrRead)
	c := d.Clone()
	mustHold(t, c, 1, "more")
	d.Fault(1, false)
	mustHold(t, d, 1, "more")
	d.Fault(1, true)
	d.Wipe()
	mustBeFresh(t, d, 3)
	d.Fault(1, false)
	mustHold(t, d, 1, "")
}

// P5.3: Wipe of what was kept, cached, faulty, armed, Dead.
func TestWipe(t *testing.T) {
	for _, n := range []int{0, 1, 2, 64, most} {
		d := disk.New(n)
		for range 2 {
			for at := range n {
				mustWrite(t, d, at, "kept")
			}
			mustFlush(t, d)
			for at := range n {
				mustWrite(t, d, at, "cached")
				d.Fault(at, true)
			}
			d.Arm(3)
			d.Wipe()
			mustBeFresh(t, d, n)
			d.Crash(slices.Repeat([]bool{true}, n)...)
			mustBeFresh(t, d, n)
			kill(t, d)
			d.Wipe()
			mustBeFresh(t, d, n)
		}
	}
}

// P5.3: a Clone ahead of a Flush and behind it, and both disks written afterwards.
func TestClone(t *testing.T) {
	d := disk.New(3)
	mustWrite(t, d, 0, "a")
	mustWrite(t, d, 1, "b")
	mustFlush(t, d)
	mustWrite(t, d, 1, "cached")
	mustWrite(t, d, 2, "cached")
	d.Fault(0, true)
	d.Arm(7)
	ahead := d.Clone()
	mustHaveCached(t, d, 2)
	mustFlush(t, d)
	behind := d.Clone()
	for _, x := range []struct {
		c    *disk.Disk
		want []string
	}{{ahead, []string{"a", "b", ""}}, {behind, []string{"a", "cached", "cached"}}} {
		mustHaveCached(t, x.c, 0)
		x.c.Crash(true, true, true)
		for at, b := range x.want {
			mustHold(t, x.c, at, b)
		}
		mustNotBeArmed(t, x.c)
		if x.c.Size() != 3 || x.c.Dead() {
			t.Errorf("Size %d, Dead %t", x.c.Size(), x.c.Dead())
		}
	}
	mustNotRead(t, d, 0, api.ErrRead)
	d.Fault(0, false)
	mustWrite(t, d, 0, "of d")
	mustWrite(t, ahead, 0, "of ahead")
	mustHold(t, d, 0, "of d")
	mustHold(t, ahead, 0, "of ahead")
	mustHold(t, behind, 0, "a")
	mustFlush(t, d)
	mustHaveCached(t, ahead, 1)
	mustFlush(t, ahead)
	mustWrite(t, behind, 1, "of behind")
	mustFlush(t, behind)
	ahead.Fault(2, true)
	kill(t, behind)
	for at, b := range []string{"of d", "cached", "cached"} {
		mustHold(t, d, at, b)
	}
	d.Wipe()
	mustHold(t, ahead, 0, "of ahead")
	mustHold(t, ahead, 1, "b")
	mustNotRead(t, ahead, 2, api.ErrRead)
	behind.Crash()
	for at, b := range []string{"a", "of behind", "cached"} {
		mustHold(t, behind, at, b)
	}
}

// P5.3: Clones of all sizes, of Dead disks, of Clones.
func TestCloneOfAll(t *testing.T) {
	for _, n := range []int{0, 1, 2, 64, most} {
		d := disk.New(n)
		mustBeFresh(t, d.Clone(), n)
		for at := range n {
			mustWrite(t, d, at, string(text(at, 1+at%size)))
		}
		mustFlush(t, d)
		kill(t, d)
		c := d.Clone().Clone()
		if c == d || c.Size() != n || c.Dead() {
			t.Errorf("a Clone of %d sectors, Dead %t", c.Size(), c.Dead())
		}
		for at := range n {
			mustHold(t, c, at, string(text(at, 1+at%size)))
		}
		mustNotBeArmed(t, c)
		kill(t, c)
	}
}

// P5.3: every call of a Disk that nobody made.
func TestADiskThatNobodyMade(t *testing.T) {
	for _, made := range []func() *disk.Disk{func() *disk.Disk { return nil }, func() *disk.Disk { return &disk.Disk{} }} {
		d := made()
		for _, n := range []int{math.MinInt, -1, 0, 1, math.MaxInt} {
			d.Arm(n)
			for _, at := range append(far(1), 0, 1) {
				for _, b := range [][]byte{nil, {}, []byte("x"), make([]byte, size+1)} {
					mustBe(t, "Write to no disk", d.Write(at, b), api.ErrRange)
				}
				mustNotRead(t, d, at, api.ErrRange)
				d.Fault(at, true)
				mustNotRead(t, d, at, api.ErrRange)
				d.Fault(at, false)
			}
			d.Arm(n)
			mustBe(t, "Flush of no disk", d.Flush(), api.OK)
			mustBe(t, "Flush of no disk", d.Flush(), api.OK)
			d.Crash()
			d.Arm(n)
			mustBe(t, "Flush of no disk", d.Flush(), api.OK)
			d.Crash(true, false, true)
			d.Wipe()
			d.Arm(n)
			mustBe(t, "Flush of no disk", d.Flush(), api.OK)
			if d.Size() != 0 || d.Cached() != 0 || d.Dead() {
				t.Errorf("Size %d, Cached %d, Dead %t", d.Size(), d.Cached(), d.Dead())
			}
		}
		c := d.Clone()
		if d == nil && c != nil {
			t.Error("a Clone of nil is there")
		}
		if d != nil && c == nil {
			t.Error("a Clone of a zero value is nil")
		}
		mustBeFresh(t, c, 0)
	}
}

// P5.4, P5.5: behind any crash a sector is as it was at the last Flush, or as a write that was cached made it.
func TestWholeSectorsAndBarriers(t *testing.T) {
	seed := uint32(1)
	next := func(n int) int {
		seed = seed*1664525 + 1013904223
		return int(seed>>8) % n
	}
	for range 3000 {
		n := 1 + next(4)
		d := disk.New(n)
		for range 4 {
			may := make([][]string, n)
			for at := range may {
				b, _ := d.Read(at)
				may[at] = []string{string(b)}
			}
			d.Arm(next(12) - 2)
			for i := range 10 {
				at, b := next(n), string(text(next(1000), next(size+1)))
				if d.Write(at, []byte(b)) == api.OK {
					may[at] = append(may[at], string(filled(b)))
				}
				if i%4 == 3 && d.Flush() == api.OK {
					for at, l := range may {
						may[at] = l[len(l)-1:]
					}
				}
			}
			keep := make([]bool, next(14))
			for i := range keep {
				keep[i] = next(2) == 0
			}
			d.Crash(keep...)
			for at, l := range may {
				if b, e := d.Read(at); e != api.OK || !slices.Contains(l, string(b)) {
					t.Fatalf("a sector that nobody made: %q, %d, none of %q", b, e, l)
				}
			}
		}
	}
}

// P2: what the caller does with bytes that were handed in, or flags, isn't seen; they aren't changed.
func TestNothingThatIsHandedInIsKept(t *testing.T) {
	d := disk.New(2)
	b := []byte("milk and more")[:4:13]
	mustBe(t, "Write", d.Write(0, b), api.OK)
	mustHold(t, d, 0, "milk")
	if string(b[:13]) != "milk and more" {
		t.Errorf("Write changed what it was given: %q", b[:13])
	}
	copy(b, "beer")
	mustHold(t, d, 0, "milk")
	mustBe(t, "Write", d.Write(1, b), api.OK)
	mustFlush(t, d)
	copy(b[:13], "wine and beer")
	mustHold(t, d, 0, "milk")
	mustHold(t, d, 1, "beer")
	mustWrite(t, d, 0, "one")
	mustWrite(t, d, 1, "two")
	keep := []bool{true, true, true, true}
	d.Crash(keep[:1]...)
	if !slices.Equal(keep, []bool{true, true, true, true}) {
		t.Errorf("Crash changed what it was given: %t", keep)
	}
	mustHold(t, d, 0, "one")
	mustHold(t, d, 1, "beer")
	keep[0] = false
	mustHold(t, d, 0, "one")
}

// P2: what the caller does with bytes that were told isn't seen, be they cached or kept, nor in other answers.
func TestNothingThatIsToldIsShared(t *testing.T) {
	for _, flushed := range []bool{false, true} {
		d := disk.New(3)
		mustWrite(t, d, 0, "milk")
		mustWrite(t, d, 1, "bread")
		if flushed {
			mustFlush(t, d)
		}
		a, _ := d.Read(0)
		b, _ := d.Read(0)
		empty, _ := d.Read(2)
		for i := range size {
			a[i], empty[i] = 'x', 'y'
		}
		_ = append(a, "behind"...)
		if string(b) != string(filled("milk")) {
			t.Errorf("another answer changed: %q", b)
		}
		c := d.Clone()
		for at, s := range []string{"milk", "bread", ""} {
			mustHold(t, d, at, s)
			if flushed {
				mustHold(t, c, at, s)
			} else {
				mustHold(t, c, at, "")
			}
		}
		d.Crash(true, true)
		mustHold(t, d, 0, "milk")
		mustHold(t, d, 2, "")
		b, _ = d.Read(1)
		mustWrite(t, d, 1, "cake")
		mustFlush(t, d)
		if string(b) != string(filled("bread")) {
			t.Errorf("an answer changed by a Write: %q", b)
		}
	}
}

// P2: an answer has no memory behind its length that another one has.
func TestAnAnswersRoom(t *testing.T) {
	d := disk.New(2)
	mustWrite(t, d, 0, "a")
	mustFlush(t, d)
	mustWrite(t, d, 1, "b")
	for at := range 2 {
		b, _ := d.Read(at)
		b = b[:cap(b)]
		for i := range b {
			b[i] = 'x'
		}
	}
	mustHold(t, d, 0, "a")
	mustHold(t, d, 1, "b")
}

// P3: disks know nothing of each other, and the same calls come to the same.
func TestDisksAreApart(t *testing.T) {
	a, b := disk.New(2), disk.New(2)
	mustWrite(t, a, 0, "a")
	a.Arm(0)
	a.Fault(1, true)
	mustBeFresh(t, b, 2)
	mustWrite(t, b, 0, "b")
	b.Crash(true)
	mustHaveCached(t, a, 1)
	mustHold(t, a, 0, "a")
	mustNotRead(t, a, 1, api.ErrRead)
	mustBe(t, "Flush of a disk that is armed", a.Flush(), api.ErrDisk)
	mustHold(t, b, 0, "b")
	mustHold(t, b, 1, "")
}
