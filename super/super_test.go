package super_test

import (
	"slices"
	"strings"
	"testing"

	"factotum/api"
	"factotum/disk"
	"factotum/super"
)

// filled is b with bytes 0 behind it, as long as a sector.
func filled(b string) string { return b + noughts(api.Sector-len(b)) }

// old is what sectors hold ahead of a test: no slot.
func old(at int) string { return strings.Repeat(string(rune('a'+at%26)), api.Sector) }

// mustWrite caches b.
func mustWrite(t *testing.T, d *disk.Disk, at int, b string) {
	t.Helper()
	if e := d.Write(at, []byte(b)); e != api.OK {
		t.Fatalf("Write to %d: %d", at, e)
	}
}

func mustFlush(t *testing.T, d *disk.Disk) {
	t.Helper()
	if e := d.Flush(); e != api.OK {
		t.Fatalf("Flush: %d", e)
	}
}

// used is a disk of n sectors that all hold something old, for good.
func used(t *testing.T, n int) *disk.Disk {
	t.Helper()
	d := disk.New(n)
	for at := range n {
		mustWrite(t, d, at, old(at))
	}
	mustFlush(t, d)
	return d
}

// slots is a disk of 2 sectors that hold these, for good.
func slots(t *testing.T, first, second string) *disk.Disk {
	t.Helper()
	d := disk.New(2)
	mustWrite(t, d, 0, first)
	mustWrite(t, d, 1, second)
	mustFlush(t, d)
	return d
}

// dead is a disk of n sectors, old ones, that is Dead.
func dead(t *testing.T, n int) *disk.Disk {
	t.Helper()
	d := used(t, n)
	d.Arm(0)
	d.Flush()
	if !d.Dead() {
		t.Fatal("not Dead")
	}
	return d
}

func mustBe(t *testing.T, what string, got, want api.Errno) {
	t.Helper()
	if got != want {
		t.Errorf("%s: %d, not %d", what, got, want)
	}
}

// mustHold asks that a sector is b with bytes 0 behind it.
func mustHold(t *testing.T, d *disk.Disk, at int, b string) {
	t.Helper()
	if got, e := d.Read(at); string(got) != filled(b) || e != api.OK {
		t.Errorf("sector %d: %x, %d, not %x", at, got, e, b)
	}
}

// mustHoldOld asks that the sectors from this one on are as used made them.
func mustHoldOld(t *testing.T, d *disk.Disk, from int) {
	t.Helper()
	for at := from; at < d.Size(); at++ {
		mustHold(t, d, at, old(at))
	}
}

// mustHaveCached asks that so many writes are cached.
func mustHaveCached(t *testing.T, d *disk.Disk, n int) {
	t.Helper()
	if got := d.Cached(); got != n {
		t.Errorf("%d are cached, not %d", got, n)
	}
}

// mustLoad asks that Load tells these.
func mustLoad(t *testing.T, d *disk.Disk, gen uint64, l ...uint64) {
	t.Helper()
	g, m, e := super.Load(d)
	if g != gen || !slices.Equal(m, l) || e != api.OK {
		t.Errorf("Load: %d, %d, %d, not %d, %d", g, m, e, gen, l)
	}
}

// mustNotLoad asks that Load tells this error, and nothing else.
func mustNotLoad(t *testing.T, d *disk.Disk, want api.Errno) {
	t.Helper()
	g, l, e := super.Load(d)
	if g != 0 || len(l) != 0 || e != want {
		t.Errorf("Load: %d, %d, %d, not %d", g, l, e, want)
	}
}

// lists have none, one, several, as many numbers as there may be.
func lists() [][]uint64 {
	return [][]uint64{nil, {}, {0}, {7}, {top}, {1, 2}, {0, 0}, {300, 0, 7}, {1, 2, 3, 4}, {0, 0, 0, 0}, {top, top, top, top}}
}

// tooMany have more.
func tooMany() [][]uint64 {
	return [][]uint64{{1, 2, 3, 4, 5}, make([]uint64, 6), make([]uint64, 256), make([]uint64, 260)}
}

// noSlots are what a sector may hold that is none.
func noSlots() []string {
	good := slot(9, 1, 2)
	return []string{
		"", "FS", noughts(63) + "\x01", strings.Repeat("\xff", api.Sector), good[:len(good)-1], "x" + good, good + "x",
		filled(good)[:63] + "\x01", summed("FS\x09\x05\x01\x02\x03\x04\x05"), summed("FS\x81\x09\x00"), good[:4] + "\x03" + good[5:],
	}
}

// P6.2: Save of even and of odd gens: the slot, in its sector; the other sectors as they were; all of it for good.
func TestSave(t *testing.T) {
	for _, n := range []int{2, 3, 64} {
		for _, gen := range numbers() {
			for _, l := range lists() {
				d := used(t, n)
				mustBe(t, "Save", super.Save(d, gen, l...), api.OK)
				mustHaveCached(t, d, 0)
				d.Crash()
				at := int(gen & 1)
				mustHold(t, d, at, slot(gen, l...))
				mustHold(t, d, 1-at, old(1-at))
				mustHoldOld(t, d, 2)
				mustLoad(t, d, gen, l...)
			}
		}
	}
}

// P6.2: a Save one behind the other, each gen one more; the one ahead stays in the other sector.
func TestManySaves(t *testing.T) {
	for _, start := range []uint64{0, 1, 120, 250, 1<<32 - 5, 1<<63 - 5, top - 20} {
		d := used(t, 2)
		ahead := old(int(1 - start&1))
		for i := range uint64(20) {
			gen, l := start+i, numbers()[i:i+i%(most+1)]
			mustBe(t, "Save", super.Save(d, gen, l...), api.OK)
			mustLoad(t, d, gen, l...)
			mustHold(t, d, int(1-gen&1), ahead)
			ahead = slot(gen, l...)
		}
	}
}

// P6.2: any gen is saved, greater or not; Load tells the greatest of the two that are there.
func TestSaveOfLesserGens(t *testing.T) {
	d := disk.New(2)
	for _, x := range []struct{ gen, want uint64 }{{8, 8}, {5, 8}, {9, 9}, {3, 8}, {2, 3}, {0, 3}, {1, 1}, {0, 1}, {top, top}, {top - 1, top}, {1, top - 1}, {0, 1}} {
		mustBe(t, "Save", super.Save(d, x.gen, x.gen), api.OK)
		mustLoad(t, d, x.want, x.want)
	}
}

// P6.2: a Save of too many numbers does nothing, on any disk.
func TestSaveOfTooMany(t *testing.T) {
	for _, l := range tooMany() {
		for gen := range uint64(2) {
			d := slots(t, slot(2, 7), slot(1, 6))
			mustWrite(t, d, 0, slot(4, 8))
			d.Arm(0)
			mustBe(t, "Save of too many", super.Save(d, gen, l...), api.ErrLong)
			if d.Dead() {
				t.Error("a Save of too many flushes or writes")
			}
			mustHaveCached(t, d, 1)
			mustLoad(t, d, 4, 8)
			d.Crash()
			mustLoad(t, d, 2, 7)
			for _, d := range []*disk.Disk{nil, {}, disk.New(0), disk.New(1), dead(t, 2)} {
				mustBe(t, "Save of too many", super.Save(d, gen, l...), api.ErrLong)
			}
		}
	}
}

// P6.2: Save on disks that nobody made, of no sectors, of one.
func TestSaveOnDisksTooSmall(t *testing.T) {
	for _, l := range lists() {
		for gen := range uint64(4) {
			for _, d := range []*disk.Disk{nil, {}, disk.New(0), disk.New(-1)} {
				mustBe(t, "Save on no sectors", super.Save(d, gen, l...), api.ErrRange)
				mustNotLoad(t, d, api.ErrRange)
			}
			d := used(t, 1)
			mustWrite(t, d, 0, "cached")
			if gen&1 == 0 {
				mustBe(t, "Save on one sector", super.Save(d, gen, l...), api.OK)
				d.Crash()
				mustHold(t, d, 0, slot(gen, l...))
			} else {
				mustBe(t, "Save on one sector", super.Save(d, gen, l...), api.ErrRange)
				// The first Flush was ahead of the write that there is no sector for.
				d.Crash()
				mustHold(t, d, 0, "cached")
			}
			mustNotLoad(t, d, api.ErrRange)
		}
	}
}

// P6.2: Save and Format and Load on a disk that is Dead; behind a crash all is as it was.
func TestADeadDisk(t *testing.T) {
	for _, n := range []int{1, 2, 3} {
		d := dead(t, n)
		for gen := range uint64(4) {
			mustBe(t, "Save on a Dead disk", super.Save(d, gen, 1), api.ErrDisk)
		}
		mustBe(t, "Format of a Dead disk", super.Format(d, 1), api.ErrDisk)
		mustBe(t, "Format of a Dead disk", super.Format(d, 1, 2, 3, 4, 5), api.ErrDisk)
		mustNotLoad(t, d, api.ErrDisk)
		d.Fault(0, true)
		mustNotLoad(t, d, api.ErrDisk)
		d.Fault(0, false)
		d.Crash(true, true, true, true)
		mustHoldOld(t, d, 0)
	}
}

// P6.2: a disk that dies at each of the steps of a Save: Flush, write, Flush.
func TestTheStepsOfASave(t *testing.T) {
	for gen := range uint64(6) {
		at := int(gen & 1)
		for steps := range 5 {
			for _, keep := range []bool{false, true} {
				d := used(t, 4)
				mustWrite(t, d, 3, "ahead")
				d.Arm(steps)
				e := super.Save(d, gen, 7, 8)
				if steps < 3 {
					mustBe(t, "Save on a disk that dies", e, api.ErrDisk)
				} else {
					mustBe(t, "Save", e, api.OK)
				}
				if d.Dead() != (steps < 3) {
					t.Errorf("Dead %t, armed to die behind %d", d.Dead(), steps)
				}
				mustHaveCached(t, d, []int{1, 0, 1, 0, 0}[steps])
				if steps >= 3 {
					// All that is left of the steps is spent one by one: Save took three.
					for range steps - 3 {
						mustFlush(t, d)
					}
					mustBe(t, "Flush", d.Flush(), api.ErrDisk)
				}
				d.Crash(keep)
				if steps > 2 || steps == 2 && keep {
					mustHold(t, d, at, slot(gen, 7, 8))
					mustLoad(t, d, gen, 7, 8)
				} else {
					mustHold(t, d, at, old(at))
					mustNotLoad(t, d, api.ErrSuper)
				}
				if steps > 0 || keep {
					mustHold(t, d, 3, "ahead")
				} else {
					mustHold(t, d, 3, old(3))
				}
				mustHold(t, d, 1-at, old(1-at))
				mustHold(t, d, 2, old(2))
			}
		}
	}
}

// P6.2: Save keeps for good what was cached ahead, wherever.
func TestSaveKeepsWhatIsCached(t *testing.T) {
	d := used(t, 9)
	for at := 2; at < 9; at += 2 {
		mustWrite(t, d, at, "ahead")
	}
	mustWrite(t, d, 0, "over it goes the slot")
	mustWrite(t, d, 1, slot(3, 4))
	mustBe(t, "Save", super.Save(d, 6, 5), api.OK)
	d.Crash()
	mustHold(t, d, 0, slot(6, 5))
	mustHold(t, d, 1, slot(3, 4))
	for at := 2; at < 9; at++ {
		if at%2 == 0 {
			mustHold(t, d, at, "ahead")
		} else {
			mustHold(t, d, at, old(at))
		}
	}
}

// P6.2: Format of used disks and of new ones: gen 0, whatever there was.
func TestFormat(t *testing.T) {
	for _, n := range []int{2, 3, 64, 4096} {
		for _, l := range lists() {
			d := used(t, n)
			mustWrite(t, d, 0, slot(top-1, 1))
			mustWrite(t, d, 1, slot(top, 2))
			mustFlush(t, d)
			mustBe(t, "Format", super.Format(d, l...), api.OK)
			mustHaveCached(t, d, 0)
			d.Crash()
			mustHold(t, d, 0, slot(0, l...))
			mustHold(t, d, 1, "")
			mustHoldOld(t, d, 2)
			mustLoad(t, d, 0, l...)
			mustBe(t, "Save behind a Format", super.Save(d, 1, 9), api.OK)
			mustLoad(t, d, 1, 9)
			mustBe(t, "Format again", super.Format(d, l...), api.OK)
			mustLoad(t, d, 0, l...)
		}
		fresh := disk.New(n)
		mustNotLoad(t, fresh, api.ErrSuper)
		mustBe(t, "Format", super.Format(fresh), api.OK)
		mustLoad(t, fresh, 0)
	}
}

// P6.2: Format on disks that nobody made, of no sectors, of one; of too many numbers there it is the disk's error that is the first.
func TestFormatOfDisksTooSmall(t *testing.T) {
	for _, l := range append(lists(), tooMany()...) {
		for _, d := range []*disk.Disk{nil, {}, disk.New(0), disk.New(-1), disk.New(1), used(t, 1)} {
			mustBe(t, "Format of a disk too small", super.Format(d, l...), api.ErrRange)
			mustNotLoad(t, d, api.ErrRange)
		}
	}
}

// P6.2: Format of too many numbers: both sectors are written with nothing ahead of Save, which refuses them.
func TestFormatOfTooMany(t *testing.T) {
	for _, l := range tooMany() {
		d := slots(t, slot(2, 7), slot(1, 6))
		mustBe(t, "Format of too many", super.Format(d, l...), api.ErrLong)
		mustNotLoad(t, d, api.ErrSuper)
		d.Crash()
		mustLoad(t, d, 2, 7)
	}
}

// P6.2: a disk that dies at each of the steps of a Format: two writes, and those of a Save.
func TestTheStepsOfAFormat(t *testing.T) {
	for steps := range 7 {
		for _, keep := range [][]bool{nil, {true}, {false, true}, {true, true}} {
			d := slots(t, slot(2, 7), slot(3, 6))
			d.Arm(steps)
			e := super.Format(d, 5)
			if steps < 5 {
				mustBe(t, "Format of a disk that dies", e, api.ErrDisk)
			} else {
				mustBe(t, "Format", e, api.OK)
			}
			if d.Dead() != (steps < 5) {
				t.Errorf("Dead %t, armed to die behind %d", d.Dead(), steps)
			}
			mustHaveCached(t, d, []int{0, 1, 2, 0, 1, 0, 0}[steps])
			d.Crash(keep...)
			kept := func(i int) bool { return i < len(keep) && keep[i] }
			first, second := slot(2, 7), slot(3, 6)
			switch {
			case steps > 4 || steps == 4 && kept(0):
				first, second = slot(0, 5), ""
			case steps > 2:
				first, second = "", ""
			default:
				if steps > 0 && kept(0) {
					first = ""
				}
				if steps > 1 && kept(1) {
					second = ""
				}
			}
			mustHold(t, d, 0, first)
			mustHold(t, d, 1, second)
		}
	}
}

// P6.2: Load where both sectors are slots: the greater gen, in either, whichever sector Save would have taken.
func TestLoadOfTwoSlots(t *testing.T) {
	for _, a := range numbers() {
		for _, b := range numbers() {
			d := slots(t, slot(a, 1, a), slot(b, 2, b))
			if b > a {
				mustLoad(t, d, b, 2, b)
			} else {
				mustLoad(t, d, a, 1, a)
			}
		}
	}
}

// P6.2: of one gen the slot of sector 0, whatever its numbers.
func TestLoadOfOneGen(t *testing.T) {
	for _, gen := range numbers() {
		for _, a := range lists() {
			for _, b := range lists() {
				mustLoad(t, slots(t, slot(gen, a...), slot(gen, b...)), gen, a...)
			}
		}
	}
}

// P6.2: Load where one sector alone is a slot, be its gen the least; and where none is.
func TestLoadOfOneSlotOrNone(t *testing.T) {
	for _, none := range noSlots() {
		for _, gen := range []uint64{0, 1, 2, 9, 10, top} {
			for _, l := range lists() {
				mustLoad(t, slots(t, slot(gen, l...), none), gen, l...)
				mustLoad(t, slots(t, none, slot(gen, l...)), gen, l...)
			}
		}
		for _, other := range noSlots() {
			mustNotLoad(t, slots(t, none, other), api.ErrSuper)
		}
	}
	d := used(t, 4)
	mustWrite(t, d, 2, slot(4, 1))
	mustWrite(t, d, 3, slot(5, 1))
	mustNotLoad(t, d, api.ErrSuper)
}

// P6.2: a sector with a fault, whatever the other one is; and a Save and a Format over a fault.
func TestLoadOfFaults(t *testing.T) {
	for _, first := range []string{slot(2, 7), ""} {
		for _, second := range []string{slot(3, 8), slot(1, 6), ""} {
			for faulty := 1; faulty < 4; faulty++ {
				d := slots(t, first, second)
				d.Fault(0, faulty&1 != 0)
				d.Fault(1, faulty&2 != 0)
				mustNotLoad(t, d, api.ErrRead)
				mustBe(t, "Save over a fault", super.Save(d, 4, 9), api.OK)
				mustBe(t, "Save over a fault", super.Save(d, 5, 10), api.OK)
				mustNotLoad(t, d, api.ErrRead)
				d.Fault(0, false)
				d.Fault(1, false)
				mustLoad(t, d, 5, 10)
				d.Fault(faulty&1, true)
				mustBe(t, "Format over a fault", super.Format(d, 11), api.OK)
				mustNotLoad(t, d, api.ErrRead)
				d.Fault(faulty&1, false)
				mustLoad(t, d, 0, 11)
			}
		}
	}
	d := disk.New(4)
	mustBe(t, "Format", super.Format(d, 1), api.OK)
	d.Fault(2, true)
	d.Fault(3, true)
	mustLoad(t, d, 0, 1)
}

// P6.2: Load on disks too small, one with a slot and one with a fault.
func TestLoadOfDisksTooSmall(t *testing.T) {
	for _, d := range []*disk.Disk{nil, {}, disk.New(0), disk.New(-1), disk.New(1)} {
		mustNotLoad(t, d, api.ErrRange)
	}
	d := disk.New(1)
	mustWrite(t, d, 0, slot(2, 7))
	mustNotLoad(t, d, api.ErrRange)
	d.Fault(0, true)
	mustNotLoad(t, d, api.ErrRead)
}

// P6.2: Load tells what was written last, be it cached; it changes nothing of the disk.
func TestLoadOnlyReads(t *testing.T) {
	d := slots(t, slot(2, 7), slot(1, 6))
	mustWrite(t, d, 1, slot(3, 8))
	d.Arm(0)
	for range 3 {
		mustLoad(t, d, 3, 8)
		mustHaveCached(t, d, 1)
	}
	if d.Dead() {
		t.Error("Load writes or flushes")
	}
	d.Crash()
	mustLoad(t, d, 2, 7)
}

// P2: what the caller does with numbers that were handed in or told isn't seen; they aren't changed, nor is what lies behind.
func TestNumbersAreNotShared(t *testing.T) {
	all := []uint64{1, 2, 3, 4, 5, 6}
	want := []uint64{1, 2, 3, 4}
	for _, save := range []func(d *disk.Disk, l ...uint64) api.Errno{
		func(d *disk.Disk, l ...uint64) api.Errno { return super.Format(d, l...) },
		func(d *disk.Disk, l ...uint64) api.Errno { return super.Save(d, 0, l...) },
	} {
		d := disk.New(2)
		given := slices.Clone(all)
		mustBe(t, "Save", save(d, given[:4]...), api.OK)
		if !slices.Equal(given, all) {
			t.Errorf("what was given is changed: %d", given)
		}
		clear(given)
		mustLoad(t, d, 0, want...)
		_, a, _ := super.Load(d)
		_, b, _ := super.Load(d)
		clear(a[:cap(a)])
		if !slices.Equal(b, want) {
			t.Errorf("another answer changed: %d", b)
		}
		mustLoad(t, d, 0, want...)
	}
}

// P3: disks know nothing of each other, and of none anything is kept elsewhere.
func TestDisksAreApart(t *testing.T) {
	a, b := disk.New(2), disk.New(2)
	mustBe(t, "Format", super.Format(a, 1), api.OK)
	mustBe(t, "Format", super.Format(b, 2), api.OK)
	mustBe(t, "Save", super.Save(a, 1, 3), api.OK)
	mustLoad(t, b, 0, 2)
	mustLoad(t, a, 1, 3)
	c := a.Clone()
	mustBe(t, "Save", super.Save(a, 2, 4), api.OK)
	mustLoad(t, c, 1, 3)
	a.Wipe()
	mustNotLoad(t, a, api.ErrSuper)
}

// The chapter's example.
func TestExample(t *testing.T) {
	d := disk.New(2)
	mustBe(t, "Format", super.Format(d, 7), api.OK)
	mustLoad(t, d, 0, 7)
	mustBe(t, "Save", super.Save(d, 1, 8), api.OK)
	mustLoad(t, d, 1, 8)
}
