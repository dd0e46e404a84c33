package wal_test

import (
	"math"
	"slices"
	"strings"
	"testing"

	"factotum/api"
	"factotum/disk"
	"factotum/wal"
)

// P7.1: Need of no bytes, of as many as fit into some sectors, and one more, of as many as a record may have, and one more.
func TestNeed(t *testing.T) {
	for _, x := range []struct{ n, want int }{
		{0, 1}, {1, 1}, {56, 1}, {57, 1}, {58, 2}, {120, 2}, {121, 2}, {122, 3}, {185, 3}, {186, 4},
		{64*99 - 7, 99}, {64*99 - 6, 100}, {64*937 - 7, 937}, {64*937 - 6, 938}, {59999, 938}, {60000, 938},
		{60001, 0}, {60002, 0}, {60025, 0}, {60026, 0}, {65535, 0}, {65536, 0}, {65537, 0}, {65536 + 57, 0}, {1 << 20, 0}, {1 << 26, 0},
	} {
		if got := wal.Need(make([]byte, x.n)); got != x.want {
			t.Errorf("Need of %d bytes: %d, not %d", x.n, got, x.want)
		}
	}
	if got := wal.Need(nil); got != 1 {
		t.Errorf("Need of nil: %d", got)
	}
	for n := range 2000 {
		if got := wal.Need([]byte(text(n, n))); got != needed(n) {
			t.Errorf("Need of %d bytes: %d, not %d", n, got, needed(n))
		}
	}
}

// P7.1: Format on disks too small, which it leaves as they are, be they Dead.
func TestFormatOfDisksTooSmall(t *testing.T) {
	for _, d := range []*disk.Disk{nil, {}, disk.New(0), disk.New(-3), disk.New(1), disk.New(2)} {
		mustBe(t, "Format", wal.Format(d), api.ErrFull)
	}
	for n := range 3 {
		d := used(t, n)
		d.Arm(0)
		mustBe(t, "Format", wal.Format(d), api.ErrFull)
		if d.Dead() || d.Cached() != 0 {
			t.Errorf("Format writes on a disk of %d sectors", n)
		}
		for at := range n {
			mustHold(t, d, at, old(at))
		}
		kill(t, d)
		mustBe(t, "Format of a dead disk too small", wal.Format(d), api.ErrFull)
	}
}

// P7.1: Format on disks of 3 sectors and of more: an empty ring, its sectors as they were, whatever was there ahead.
func TestFormat(t *testing.T) {
	for _, n := range []int{3, 4, 5, 64, 4096} {
		d := used(t, n)
		mustBe(t, "Format", wal.Format(d), api.OK)
		if d.Cached() != 0 {
			t.Errorf("%d are cached", d.Cached())
		}
		d.Crash()
		mustHold(t, d, 0, "FS\x00\x02\x00\x00\xed\xb1\x7c\x1b")
		mustHold(t, d, 1, noughts(size))
		for at := 2; at < n; at++ {
			mustHold(t, d, at, old(at))
		}
		w := mustOpen(t, d)
		if w.Free() != n-2 {
			t.Errorf("Free %d of %d sectors", w.Free(), n)
		}
	}
	for _, gen := range []uint64{0, 1, 6, 7, top} {
		d := laid(t, 6, gen, 3, "milk", "bread")
		mustBe(t, "Format", wal.Format(d), api.OK)
		mustOpen(t, d)
		mustSlot(t, d, 0, 0, 0)
	}
}

// P7.1: Format on a dead disk, and on one that dies within.
func TestFormatOfADeadDisk(t *testing.T) {
	d := used(t, 3)
	kill(t, d)
	mustBe(t, "Format of a dead disk", wal.Format(d), api.ErrDisk)
	for steps := range 7 {
		d := used(t, 3)
		d.Arm(steps)
		want := api.OK
		if steps < 5 {
			want = api.ErrDisk
		}
		mustBe(t, "Format", wal.Format(d), want)
	}
}

// P7.1 and P7.3: records and slots as they stand in sectors, written out by a script apart from the program.
func TestRecordsWrittenOut(t *testing.T) {
	d, w := fresh(t, 4)
	x, y := strings.Repeat("x", 57), strings.Repeat("y", 58)
	mustBe(t, "Add", w.Add([]byte("milk")), api.OK)
	mustHold(t, d, 1, "FS\x01\x02\x00\x01\x35\x1d\xfb\x1b")
	mustHold(t, d, 2, "\xa5\x00\x04milk\x13\x42\xeb\x15")
	mustHold(t, d, 3, old(3))
	mustBe(t, "Add", w.Add([]byte(y), nil), api.OK)
	mustHold(t, d, 0, "FS\x02\x02\x00\x04\x42\xaf\x22\x1e")
	mustHold(t, d, 2, "\xa5\x00\x04milk\x13\x42\xeb\x15")
	mustHold(t, d, 3, "\xa5\x00\x3a"+y+"\xcf\xc4\x80\x4e")
	mustHold(t, d, 5, "\xa5\x00\x00\x00\xb7\x64\x7d")
	mustBe(t, "Cut", w.Cut(1), api.OK)
	mustHold(t, d, 1, "FS\x03\x02\x01\x04\x4c\xdb\x79\x75")
	mustBe(t, "Swap", w.Swap([]byte(x)), api.OK)
	mustHold(t, d, 0, "FS\x04\x02\x04\x05\xc3\xa5\x7a\xdc")
	mustHold(t, d, 2, "\xa5\x00\x39"+x+"\x1a\x4e\x4e\x35")
	mustOpen(t, d, x)
}

// starts are numbers of records ahead of a call, each with the place where the first begins.
func starts() []struct {
	head uint64
	l    []string
} {
	return []struct {
		head uint64
		l    []string
	}{
		{0, nil}, {5, nil}, {9, nil}, {0, texts(4)}, {9, texts(4)}, {0, texts(4, 0)}, {8, texts(100, 4)}, {3, texts(4, 60, 5)}, {1<<40 + 7, texts(3, 2, 1)},
	}
}

// P7.3: Add of none, of one, of several: all records are there, in their order, and no sector is written but theirs and one slot's.
func TestAdd(t *testing.T) {
	for _, from := range starts() {
		for _, l := range [][]string{nil, texts(0), texts(4), texts(57), texts(58), texts(4, 4), texts(0, 0, 0), texts(121, 1), texts(1, 122), texts(57, 58, 3)} {
			d := laid(t, 12, 6, from.head, from.l...)
			w := mustOpen(t, d, from.l...)
			p := laid(t, 12, 6, from.head, from.l...)
			tail := lay(t, p, from.head, slices.Concat(from.l, l)...)
			mustWrite(t, p, 1, slot(7, from.head, tail))
			mustBe(t, "Add", w.Add(asBytes(l)...), api.OK)
			mustTell(t, w, d, slices.Concat(from.l, l))
			mustBeLike(t, d, p)
			mustSlot(t, d, 7, from.head, tail)
			if d.Cached() != 0 {
				t.Fatalf("%d are cached", d.Cached())
			}
			d.Crash()
			mustOpen(t, d, slices.Concat(from.l, l)...)
		}
	}
}

// P7.3: Swap of none and of some: what was there is gone, the new ones begin where the old ones end.
func TestSwap(t *testing.T) {
	for _, from := range starts() {
		for _, l := range [][]string{nil, texts(0), texts(57), texts(58), texts(4, 4), texts(1, 122), texts(57, 58, 3)} {
			d := laid(t, 12, 5, from.head, from.l...)
			w := mustOpen(t, d, from.l...)
			p := laid(t, 12, 5, from.head, from.l...)
			head := lay(t, p, from.head, from.l...)
			tail := lay(t, p, head, l...)
			mustWrite(t, p, 0, slot(6, head, tail))
			mustBe(t, "Swap", w.Swap(asBytes(l)...), api.OK)
			mustTell(t, w, d, l)
			mustBeLike(t, d, p)
			mustSlot(t, d, 6, head, tail)
			d.Crash()
			mustOpen(t, d, l...)
		}
	}
}

// P7.3: Cut of 0, of some, of all; of less than 0 and of more than there are, which changes nothing.
func TestCut(t *testing.T) {
	for _, from := range starts() {
		for n := range len(from.l) + 1 {
			d := laid(t, 12, 5, from.head, from.l...)
			w := mustOpen(t, d, from.l...)
			p := laid(t, 12, 5, from.head, from.l...)
			head := lay(t, p, from.head, from.l[:n]...)
			tail := lay(t, p, head, from.l[n:]...)
			mustWrite(t, p, 0, slot(6, head, tail))
			for _, wrong := range []int{-1, -2, len(from.l) + 1, len(from.l) + 2, 1 << 40, math.MaxInt, math.MinInt} {
				mustBe(t, "Cut of what isn't there", w.Cut(wrong), api.ErrRange)
				mustTell(t, w, d, from.l)
				mustSlot(t, d, 5, from.head, tail)
			}
			mustBe(t, "Cut", w.Cut(n), api.OK)
			mustTell(t, w, d, from.l[n:])
			mustBeLike(t, d, p)
			mustSlot(t, d, 6, head, tail)
			d.Crash()
			mustOpen(t, d, from.l[n:]...)
		}
	}
}

// writers are the calls that take records.
func writers() map[string]func(w *wal.Wal, l ...[]byte) api.Errno {
	return map[string]func(w *wal.Wal, l ...[]byte) api.Errno{"Add": (*wal.Wal).Add, "Swap": (*wal.Wal).Swap}
}

// mustRefuse asks that a call is refused with this error, and changes nothing: neither the Wal nor the disk.
func mustRefuse(t *testing.T, what string, w *wal.Wal, d *disk.Disk, l []string, want api.Errno, call func() api.Errno) {
	t.Helper()
	p := d.Clone()
	d.Arm(0)
	mustBe(t, what, call(), want)
	if d.Dead() {
		t.Fatalf("%s: it writes or flushes", what)
	}
	d.Arm(-1)
	mustTell(t, w, d, l)
	mustBeLike(t, d, p)
}

// P7.3: records up to the ring's last sector, and one sector more; Swap needs as much room as Add.
func TestTheLastSector(t *testing.T) {
	for name, call := range writers() {
		for _, from := range starts() {
			free := mustOpen(t, laid(t, 12, 5, from.head, from.l...), from.l...).Free()
			for _, l := range [][]string{texts(make([]int, free)...), texts(free*size - 7), texts(57, (free-1)*size-7), texts(64, (free-2)*size-7)} {
				d := laid(t, 12, 5, from.head, from.l...)
				w := mustOpen(t, d, from.l...)
				longer := slices.Clone(l)
				last := len(l) - 1
				longer[last] = text(needed(len(l[last]))*size-6, 3)
				for _, over := range [][]string{append(slices.Clone(l), ""), append([]string{""}, l...), longer} {
					mustRefuse(t, name+" of a sector more", w, d, from.l, api.ErrFull, func() api.Errno { return call(w, asBytes(over)...) })
				}
				mustBe(t, name+" that fits", call(w, asBytes(l)...), api.OK)
				want := l
				if name == "Add" {
					want = slices.Concat(from.l, l)
				}
				mustTell(t, w, d, want)
				d.Crash()
				mustOpen(t, d, want...)
			}
		}
	}
}

// P7.3: a full ring takes none and of no bytes, but none at all; behind a Cut it does.
func TestAFullRing(t *testing.T) {
	for name, call := range writers() {
		d, w := fresh(t, 3)
		l := texts(4, 60)
		mustBe(t, "Add", w.Add(asBytes(l)...), api.OK)
		mustRefuse(t, name+" where all is full", w, d, l, api.ErrFull, func() api.Errno { return call(w, nil) })
		mustBe(t, "Add of none", w.Add(), api.OK)
		mustTell(t, w, d, l)
		mustBe(t, "Cut", w.Cut(1), api.OK)
		mustRefuse(t, name+" of two sectors", w, d, l[1:], api.ErrFull, func() api.Errno { return call(w, make([]byte, 58)) })
		mustBe(t, name+" of one", call(w, nil), api.OK)
		want := []string{l[1], ""}
		if name == "Swap" {
			want = want[1:]
		}
		mustTell(t, w, d, want)
		mustOpen(t, d, want...)
	}
}

// P7.3: one that is too long among others, at each place, be there no room for the others either.
func TestRecordsTooLong(t *testing.T) {
	for name, call := range writers() {
		for _, ring := range []int{1, 5, 938, 1900, 4094} {
			d, w := fresh(t, ring)
			mustBe(t, "Add", w.Add([]byte("milk")), api.OK)
			for _, n := range []int{long + 1, long + 2, 1<<16 - 1, 1 << 16, 1<<16 + 4, 1 << 18} {
				for at := range 3 {
					l := [][]byte{[]byte("a"), make([]byte, 300), nil}
					l[at] = make([]byte, n)
					mustRefuse(t, name+" of one too long", w, d, []string{"milk"}, api.ErrLong, func() api.Errno { return call(w, l...) })
				}
			}
			many := append(slices.Repeat([][]byte{make([]byte, long)}, 5), make([]byte, long+1))
			mustRefuse(t, name+" of too many, one too long", w, d, []string{"milk"}, api.ErrLong, func() api.Errno { return call(w, many...) })
		}
	}
}

// P7.1 and P7.3: records as long as may be, in rings that just hold them.
func TestTheLongestRecords(t *testing.T) {
	l := []string{text(long, 1), text(long, 2), text(long, 3), text(long, 4)}
	d, w := fresh(t, 938)
	mustBe(t, "Add", w.Add([]byte(l[0])), api.OK)
	mustOpen(t, d, l[0])
	d, w = fresh(t, 937)
	mustRefuse(t, "Add", w, d, nil, api.ErrFull, func() api.Errno { return w.Add([]byte(l[0])) })
	d, w = fresh(t, 4094)
	mustBe(t, "Add", w.Add(asBytes(l)...), api.OK)
	mustRefuse(t, "Add", w, d, l, api.ErrFull, func() api.Errno { return w.Add([]byte(l[0])) })
	mustBe(t, "Cut", w.Cut(1), api.OK)
	mustBe(t, "Add", w.Add([]byte(l[0])), api.OK)
	mustOpen(t, d, l[1], l[2], l[3], l[0])
}

// P7.1 and P7.3: records that go over the ring's end, from every place on, in rings of all sizes; with and without others ahead.
func TestRecordsOverTheRingsEnd(t *testing.T) {
	for ring := 1; ring < 12; ring++ {
		for head := range uint64(2 * ring) {
			d := laid(t, ring+2, 3, head)
			w := mustOpen(t, d)
			whole := text(ring*size-7, ring)
			mustBe(t, "Add of a whole ring", w.Add([]byte(whole)), api.OK)
			for i := range ring {
				mustHold(t, d, place(d, head+uint64(i)), framed(whole)[i*size:(i+1)*size])
			}
			mustOpen(t, d, whole)
			mustBe(t, "Cut", w.Cut(1), api.OK)
			small := texts(make([]int, ring)...)
			mustBe(t, "Add of small ones", w.Add(asBytes(small)...), api.OK)
			mustOpen(t, d, small...)
		}
	}
}

// P7.3: many calls one behind the other, far round the ring; one Wal for all, and one opened anew each time.
func TestRoundAndRound(t *testing.T) {
	for _, anew := range []bool{false, true} {
		d, w := fresh(t, 7)
		var l []string
		for i := range 500 {
			s := text(i*37%180, i)
			for w.Add([]byte(s)) == api.ErrFull {
				mustBe(t, "Cut", w.Cut(1), api.OK)
				l = l[1:]
			}
			l = append(l, s)
			mustTell(t, w, d, l)
			again := mustOpen(t, d, l...)
			if anew {
				w = again
			}
		}
	}
}

// P7.3: a Wal whose disk dies within a call is at an end, also where the disk lives again; Len and Free tell what was there.
func TestAWalAtAnEnd(t *testing.T) {
	l := texts(4, 60)
	for name, call := range calls() {
		for steps := range 3 {
			d := laid(t, 12, 4, 3, l...)
			w := mustOpen(t, d, l...)
			d.Arm(steps)
			mustBe(t, name, call(w), api.ErrDisk)
			for range 2 {
				for other, next := range calls() {
					mustBe(t, other+" behind the end", next(w), api.ErrDisk)
				}
				mustBe(t, "Add of one too long", w.Add(make([]byte, long+1)), api.ErrDisk)
				mustBe(t, "Add of too many", w.Add(make([]byte, long)), api.ErrDisk)
				mustBe(t, "Swap of one too long", w.Swap(make([]byte, long+1)), api.ErrDisk)
				mustBe(t, "Swap of too many", w.Swap(make([]byte, long)), api.ErrDisk)
				mustBe(t, "Cut below 0", w.Cut(-1), api.ErrDisk)
				mustBe(t, "Cut of too many", w.Cut(9), api.ErrDisk)
				mustTell(t, w, d, l)
				d.Crash()
			}
			mustBe(t, "Add", mustOpen(t, d, l...).Add(nil), api.OK)
		}
	}
}

// calls are one of each kind of call that changes a Wal, of 2 records or more.
func calls() map[string]func(w *wal.Wal) api.Errno {
	return map[string]func(w *wal.Wal) api.Errno{
		"Add":          func(w *wal.Wal) api.Errno { return w.Add([]byte("bread"), nil) },
		"Add of none":  func(w *wal.Wal) api.Errno { return w.Add() },
		"Swap":         func(w *wal.Wal) api.Errno { return w.Swap([]byte("bread")) },
		"Swap of none": func(w *wal.Wal) api.Errno { return w.Swap() },
		"Cut":          func(w *wal.Wal) api.Errno { return w.Cut(1) },
		"Cut of none":  func(w *wal.Wal) api.Errno { return w.Cut(0) },
		"Cut of all":   func(w *wal.Wal) api.Errno { return w.Cut(2) },
	}
}

// P7.3: where the disk is Dead already, a call that is refused ahead of writing doesn't end the Wal, any other does.
func TestADeadDisk(t *testing.T) {
	for name, call := range calls() {
		d := laid(t, 12, 4, 3, texts(4, 60)...)
		w := mustOpen(t, d, texts(4, 60)...)
		kill(t, d)
		mustBe(t, "Add of one too long", w.Add(make([]byte, long+1)), api.ErrLong)
		mustBe(t, "Swap of too many", w.Swap(make([]byte, 8*size)), api.ErrFull)
		mustBe(t, "Cut below 0", w.Cut(-1), api.ErrRange)
		d.Crash()
		mustBe(t, "Add", w.Add(nil), api.OK)
		mustBe(t, "Cut", w.Cut(1), api.OK)
		kill(t, d)
		mustBe(t, name, call(w), api.ErrDisk)
		d.Crash()
		mustBe(t, name, call(w), api.ErrDisk)
		mustOpen(t, d, texts(4, 60)[1], "")
	}
}

// P1 and P7.3: a Wal that nobody made.
func TestAWalThatNobodyMade(t *testing.T) {
	for _, w := range []*wal.Wal{nil, {}} {
		for name, call := range calls() {
			mustBe(t, name, call(w), api.ErrDisk)
		}
		for _, l := range [][][]byte{nil, {nil}, {make([]byte, long+1)}, slices.Repeat([][]byte{make([]byte, long)}, 9)} {
			mustBe(t, "Add", w.Add(l...), api.ErrDisk)
			mustBe(t, "Swap", w.Swap(l...), api.ErrDisk)
		}
		for _, n := range []int{0, 1, -1, math.MaxInt, math.MinInt} {
			mustBe(t, "Cut", w.Cut(n), api.ErrDisk)
		}
		if w.Len() != 0 || w.Free() != 0 {
			t.Errorf("Len %d, Free %d", w.Len(), w.Free())
		}
	}
}

// P2: what the caller does with texts behind a call isn't seen; they aren't changed, nor is what lies behind them.
func TestTextsAreNotShared(t *testing.T) {
	for name, call := range writers() {
		for _, n := range []int{0, 4, 57, 58, 200} {
			d, w := fresh(t, 12)
			given := []byte(text(n+9, n))
			list := [][]byte{given[:n], []byte("bread"), []byte("behind")}
			mustBe(t, name, call(w, list[:2]...), api.OK)
			if string(given) != text(n+9, n) || string(list[1]) != "bread" || string(list[2]) != "behind" {
				t.Fatalf("%s: what was given is changed", name)
			}
			clear(given)
			clear(list[1])
			clear(list)
			want := []string{text(n, n), "bread"}
			mustOpen(t, d, want...)
			_, a, _ := wal.Open(d)
			_, b, _ := wal.Open(d)
			for _, x := range a {
				clear(x[:cap(x)])
			}
			if !same(b, want) {
				t.Fatalf("%s: another answer changed", name)
			}
			clear(b[:cap(b)])
			mustBe(t, "Add", w.Add([]byte("cake")), api.OK)
			mustOpen(t, d, append(want, "cake")...)
		}
	}
}

// P2: texts of one answer share no memory, nor lie one within another's room.
func TestTextsOfOneAnswer(t *testing.T) {
	l := texts(0, 3, 57, 58, 0, 200)
	d := laid(t, 20, 0, 3, l...)
	for i := range l {
		_, got, _ := wal.Open(d)
		clear(got[i][:cap(got[i])])
		_ = append(got[i], "more"...)
		for j := range got {
			if j != i && string(got[j]) != l[j] {
				t.Fatalf("text %d changed with text %d", j, i)
			}
		}
	}
}

// P3: Wals of several disks know nothing of each other; a clone has the records of its disk.
func TestWalsAreApart(t *testing.T) {
	a, v := fresh(t, 5)
	b, w := fresh(t, 5)
	mustBe(t, "Add", v.Add([]byte("milk")), api.OK)
	mustBe(t, "Add", w.Add([]byte("bread"), []byte("cake")), api.OK)
	c := a.Clone()
	mustBe(t, "Swap", v.Swap(), api.OK)
	mustOpen(t, a)
	mustOpen(t, b, "bread", "cake")
	mustOpen(t, c, "milk")
}

// P7.4 where places end: behind the greatest one Open tells all the same.
func TestPlacesUpToTheGreatest(t *testing.T) {
	for ring := 1; ring < 9; ring++ {
		for below := range uint64(12) {
			for count := range min(ring, int(below)) + 1 {
				l := texts(make([]int, count)...)
				d := laid(t, ring+2, 8, top-below, l...)
				w := mustOpen(t, d, l...)
				for i := range 20 {
					s := text(i*29%(size-7), i)
					if w.Free() == 0 {
						mustBe(t, "Cut", w.Cut(1), api.OK)
						l = l[1:]
					}
					mustBe(t, "Add", w.Add([]byte(s)), api.OK)
					l = append(l, s)
					mustTell(t, w, d, l)
					mustOpen(t, d, l...)
				}
				mustBe(t, "Swap", w.Swap(), api.OK)
				mustOpen(t, d)
			}
		}
	}
}

// P7.4 where gens end: behind the greatest one Open tells all the same.
func TestGensUpToTheGreatest(t *testing.T) {
	for below := range uint64(4) {
		d := laid(t, 6, top-below, 3, "milk")
		w := mustOpen(t, d, "milk")
		l := []string{"milk"}
		for i := range 8 {
			s := text(i, i)
			mustBe(t, "Swap", w.Swap([]byte(s)), api.OK)
			mustBe(t, "Add", w.Add(nil), api.OK)
			l = []string{s, ""}
			mustOpen(t, d, l...)
		}
	}
}

// The chapter's example.
func TestExample(t *testing.T) {
	d := disk.New(6)
	mustBe(t, "Format", wal.Format(d), api.OK)
	w := mustOpen(t, d)
	mustBe(t, "Add", w.Add([]byte("a"), []byte("b")), api.OK)
	mustBe(t, "Cut", w.Cut(1), api.OK)
	mustOpen(t, d, "b")
}
