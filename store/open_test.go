package store_test

import (
	"strconv"
	"testing"

	"factotum/api"
	"factotum/disk"
	"factotum/store"
	"factotum/super"
	"factotum/wal"
)

// P8.2: Format on disks that are too small, be they Dead, and on none: they are left as they are.
func TestFormatOfDisksTooSmall(t *testing.T) {
	for _, d := range []*disk.Disk{nil, {}, disk.New(-3), disk.New(0), disk.New(1), disk.New(2)} {
		mustBe(t, "Format", store.Format(d), api.ErrFull)
	}
	for n := range 3 {
		d, p := used(t, n), used(t, n)
		mustBe(t, "Format", store.Format(d), api.ErrFull)
		mustBeLike(t, "Format", d, p)
		kill(t, d)
		mustBe(t, "Format of a dead disk", store.Format(d), api.ErrFull)
	}
}

// P8.2: Format on disks of 3 sectors and of more: one record, that all is nothing; whatever was there ahead is gone.
func TestFormat(t *testing.T) {
	for _, n := range []int{3, 4, 5, 64, most} {
		d := used(t, n)
		for range 2 {
			mustBe(t, "Format", store.Format(d), api.OK)
			if d.Cached() != 0 {
				t.Errorf("%d are cached", d.Cached())
			}
			d.Crash()
			mustHave(t, "Format", d, "\x01\x00")
			s := mustOpen(t, "Format", d, nil)
			mustCount(t, "Format", s, 1)
			if n > 4 {
				mustBe(t, "Commit", s.Commit(put("a", "1")), api.OK)
				mustOpen(t, "Commit", d, there{"a": "1"})
			}
		}
	}
}

// P8.2: Format on a dead disk, and on one that dies within: Open tells nothing that was there ahead, once wal.Format went well.
func TestFormatOfADeadDisk(t *testing.T) {
	d := used(t, 8)
	kill(t, d)
	mustBe(t, "Format of a dead disk", store.Format(d), api.ErrDisk)
	const steps = 5 + 4 // of wal.Format, of the record
	for n := range steps + 2 {
		for _, keep := range choices(2) {
			d := laid(t, 6, recorded(true, put("a", "1")))
			d.Arm(n)
			want := api.ErrDisk
			if n >= steps {
				want = api.OK
			}
			mustBe(t, "Format", store.Format(d), want)
			kept := n == steps-1 && len(keep) > 0 && keep[0]
			d.Crash(keep...)
			switch {
			case n >= steps, kept:
				mustOpen(t, "Format", d, nil)
			case n >= 5:
				mustNotOpen(t, "Format cut off", d, api.ErrNone)
			}
		}
	}
}

// P8.2: Format where a sector of the super has a fault tells of it, as wal.Open does; of other faults it knows nothing.
func TestFormatOfADiskWithAFault(t *testing.T) {
	for at := range 8 {
		d := used(t, 8)
		d.Fault(at, true)
		want := api.OK
		if at < 2 {
			want = api.ErrRead
		}
		mustBe(t, "Format", store.Format(d), want)
		if at < 3 {
			mustNotOpen(t, "a fault", d, api.ErrRead)
		} else {
			mustOpen(t, "a fault", d, nil)
		}
	}
}

// P8.2: wal's errors: no wal, wrong numbers, no frames, too few sectors, a dead disk, faults.
func TestOpenTellsTheWalsErrors(t *testing.T) {
	for _, d := range []*disk.Disk{nil, {}, disk.New(0), disk.New(1)} {
		mustNotOpen(t, "a disk too small", d, api.ErrRange)
	}
	for _, n := range []int{2, 3, 12} {
		mustNotOpen(t, "an empty disk", disk.New(n), api.ErrSuper)
		mustNotOpen(t, "no wal", used(t, n), api.ErrSuper)
	}
	for _, l := range [][]uint64{{}, {1}, {0, 0, 0}, {1, 0}, {0, 7}, {0, 1}} {
		d := used(t, 8)
		mustBe(t, "super.Format", super.Format(d, l...), api.OK)
		mustNotOpen(t, "a wal of other numbers", d, api.ErrWal)
	}
	d := laid(t, 8, recorded(true, put("a", "1")), recorded(false, put("b", text(100, 1))))
	h := there{"a": "1", "b": text(100, 1)}
	for at := range 10 {
		d.Fault(at, true)
		if at < 5 {
			mustNotOpen(t, "a fault", d, api.ErrRead)
		} else {
			mustOpen(t, "a fault", d, h)
		}
		d.Fault(at, false)
	}
	kill(t, d)
	mustNotOpen(t, "a dead disk", d, api.ErrDisk)
	d.Crash()
	mustOpen(t, "a disk that lives again", d, h)
	mustBe(t, "Write", d.Write(4, []byte("none")), api.OK)
	mustNotOpen(t, "no frame", d, api.ErrWal)
}

// P8.2: a wal with no records: one that was formatted, one of which all are cut, one on a disk that has no room for any.
func TestOpenOfNoRecords(t *testing.T) {
	mustNotOpen(t, "a wal formatted", laid(t, 6), api.ErrNone)
	d := laid(t, 6, recorded(true, put("a", "1")), recorded(false))
	w, _, _ := wal.Open(d)
	mustBe(t, "Cut", w.Cut(2), api.OK)
	mustNotOpen(t, "a wal cut", d, api.ErrNone)
	d = used(t, 2)
	mustBe(t, "super.Format", super.Format(d, 0, 0), api.OK)
	mustNotOpen(t, "a wal of no room", d, api.ErrNone)
}

// P8.2: records that are none of Puts, at every place, be there one of all behind them.
func TestOpenOfOtherRecords(t *testing.T) {
	good := []string{recorded(true, put("a", "1")), recorded(false, put("b", "2")), recorded(true, put("c", "3")), recorded(false)}
	for _, none := range []string{"", "\x00", "\x02\x00", "milk", "\x01\x00\x00", "\x01\x01\x01a\x01\x011", "\x00\x01\x81\x01a\x00\x00", recorded(false, shorts(0, most+1)...)} {
		for at := range len(good) {
			l := append([]string{}, good...)
			l[at] = none
			mustNotOpen(t, "no record at "+strconv.Itoa(at), laid(t, 700, l...), api.ErrStore)
		}
		mustNotOpen(t, "no record alone", laid(t, 700, none), api.ErrStore)
	}
	mustOpen(t, "records", laid(t, 700, good...), there{"c": "3"})
}

// P8.2: records one behind the other: Puts happen; with `all` nothing but its Puts is there, be the first one such or not.
func TestOpenOfRecords(t *testing.T) {
	ab := []api.Put{put("a", "1"), put("b", "2")}
	for i, x := range []struct {
		l []string
		h there
	}{
		{[]string{recorded(false)}, nil},
		{[]string{recorded(true)}, nil},
		{[]string{recorded(false, ab...)}, there{"a": "1", "b": "2"}},
		{[]string{recorded(true, ab...)}, there{"a": "1", "b": "2"}},
		{[]string{recorded(true, ab...), recorded(false)}, there{"a": "1", "b": "2"}},
		{[]string{recorded(true, ab...), recorded(true)}, nil},
		{[]string{recorded(true, ab...), recorded(false, put("c", "3"))}, there{"a": "1", "b": "2", "c": "3"}},
		{[]string{recorded(true, ab...), recorded(true, put("c", "3"))}, there{"c": "3"}},
		{[]string{recorded(true, ab...), recorded(false, put("a", ""))}, there{"a": "", "b": "2"}},
		{[]string{recorded(true, ab...), recorded(false, gone("a"))}, there{"b": "2"}},
		{[]string{recorded(true, ab...), recorded(true, gone("a"))}, nil},
		{[]string{recorded(true, ab...), recorded(true, put("a", "9"), gone("a"), put("b", "8"), put("b", "7"))}, there{"b": "7"}},
		{[]string{recorded(true, ab...), recorded(false, gone("a"), put("a", "9"), gone("b"), gone("c"))}, there{"a": "9"}},
		{[]string{recorded(false, gone("a")), recorded(false, ab...)}, there{"a": "1", "b": "2"}},
		{[]string{recorded(true, put("", "x")), recorded(true, ab...), recorded(false, gone("b")), recorded(false, put("", ""))}, there{"a": "1", "": ""}},
	} {
		s := mustOpen(t, "records "+strconv.Itoa(i), laid(t, 8, x.l...), x.h)
		mustCount(t, "records "+strconv.Itoa(i), s, len(x.l))
	}
}

// P8.2: Open only reads, and tells the same each time; Stores of several disks, and of a clone, know nothing of each other.
func TestOpenOnlyReads(t *testing.T) {
	d := laid(t, 8, recorded(true, put("a", "1")))
	p := d.Clone()
	d.Arm(0)
	for range 3 {
		mustOpen(t, "Open", d, there{"a": "1"})
	}
	if d.Dead() {
		t.Fatal("Open writes or flushes")
	}
	d.Arm(-1)
	mustBeLike(t, "Open", d, p)
	s, v := mustOpen(t, "Open", d, there{"a": "1"}), mustOpen(t, "Open", p, there{"a": "1"})
	mustBe(t, "Commit", s.Commit(put("a", "2")), api.OK)
	mustBe(t, "Commit", v.Commit(put("b", "3")), api.OK)
	mustTell(t, "Commit", s, there{"a": "2"})
	mustTell(t, "Commit", v, there{"a": "1", "b": "3"})
	mustOpen(t, "Commit", d, there{"a": "2"})
	mustOpen(t, "Commit", p, there{"a": "1", "b": "3"})
}
