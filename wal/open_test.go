package wal_test

import (
	"encoding/binary"
	"strconv"
	"strings"
	"testing"

	"factotum/api"
	"factotum/crc"
	"factotum/disk"
	"factotum/wal"
)

// slotted is a disk of n sectors, old ones, with these in sectors 0 and 1, for good.
func slotted(t *testing.T, n int, zero, one string) *disk.Disk {
	t.Helper()
	d := used(t, n)
	mustWrite(t, d, 0, zero)
	mustWrite(t, d, 1, one)
	mustBe(t, "Flush", d.Flush(), api.OK)
	return d
}

// P7.2: Open of what was formatted, and of records laid by the disk's own calls, from every place on.
func TestOpen(t *testing.T) {
	for _, ring := range []int{1, 2, 3, 9} {
		d, _ := fresh(t, ring)
		mustOpen(t, d)
	}
	for _, l := range [][]string{nil, texts(0), texts(57), texts(58), texts(1, 2, 3), texts(0, 0, 0, 0, 0, 0, 0, 0, 0), texts(9*size - 7), texts(4*size-7, 5*size-7), texts(300, 100, 0)} {
		for head := range uint64(20) {
			mustOpen(t, laid(t, 11, head, head, l...), l...)
			mustOpen(t, laid(t, 11, 1<<50, 1<<50+head, l...), l...)
			mustOpen(t, laid(t, 11, top, top-20-head, l...), l...)
		}
	}
}

// P7.2: of two slots the greater gen's counts; the other's records are gone.
func TestOpenOfTheGreaterGen(t *testing.T) {
	d := laid(t, 12, 4, 0, "milk", "bread", "cake")
	for _, x := range []struct {
		gen, head, tail uint64
		l               []string
	}{{3, 1, 2, []string{"milk", "bread", "cake"}}, {5, 1, 2, []string{"bread"}}, {7, 0, 2, []string{"milk", "bread"}}, {9, 3, 3, nil}, {11, 2, 3, []string{"cake"}}} {
		mustWrite(t, d, 1, slot(x.gen, x.head, x.tail))
		mustOpen(t, d, x.l...)
	}
}

// P7.2: the super's errors: no slot, a fault in a slot's sector whatever the other one is, too few sectors, a dead disk.
func TestOpenTellsTheSupersErrors(t *testing.T) {
	good := slot(1, 0, 0)
	broken := good[:5] + "\x01" + good[6:]
	for _, none := range []string{"", "FS", "milk", broken, good[:len(good)-1], good + "x"} {
		mustNotOpen(t, "no slot", slotted(t, 6, none, none), api.ErrSuper)
		mustOpen(t, slotted(t, 6, none, good))
	}
	mustNotOpen(t, "no slot", disk.New(6), api.ErrSuper)
	for _, other := range []string{"", slot(0, 5, 3), slot(2, 0, 0)} {
		d := slotted(t, 6, other, good)
		d.Fault(0, true)
		mustNotOpen(t, "a fault in sector 0", d, api.ErrRead)
		d.Fault(0, false)
		d.Fault(1, true)
		mustNotOpen(t, "a fault in sector 1", d, api.ErrRead)
		kill(t, d)
		mustNotOpen(t, "a dead disk", d, api.ErrDisk)
	}
	for _, d := range []*disk.Disk{nil, {}, disk.New(-1), disk.New(0), disk.New(1)} {
		mustNotOpen(t, "a disk too small", d, api.ErrRange)
	}
	mustNotOpen(t, "a disk without slots", disk.New(2), api.ErrSuper)
	d := laid(t, 6, 1, 0, "milk")
	kill(t, d)
	mustNotOpen(t, "a dead disk", d, api.ErrDisk)
}

// P7.2: slots with fewer than two numbers, or more, also where the other sector has a right one of a lesser gen.
func TestOpenOfOtherCountsOfNumbers(t *testing.T) {
	for _, l := range [][]uint64{{}, {0}, {1}, {0, 0, 0}, {0, 1, 0}, {0, 0, 0, 0}} {
		mustNotOpen(t, "other numbers", slotted(t, 6, "", slot(1, l...)), api.ErrWal)
		mustNotOpen(t, "other numbers", slotted(t, 6, slot(0, 0, 0), slot(1, l...)), api.ErrWal)
		mustOpen(t, slotted(t, 6, slot(2, 0, 0), slot(1, l...)))
	}
}

// P7.2: a head above the tail; more places between than the ring has, be there frames in all sectors.
func TestOpenOfWrongPlaces(t *testing.T) {
	for _, x := range [][2]uint64{{1, 0}, {4, 3}, {9, 0}, {top, 0}, {top, top - 1}, {1 << 63, 1<<63 - 1}, {0, 5}, {0, 6}, {3, 8}, {0, 1 << 32}, {0, 1 << 63}, {0, top}, {1, top}, {top - 5, top}, {1 << 40, 1<<40 + 5}} {
		d := slotted(t, 6, "", slot(1, x[0], x[1]))
		for p := range uint64(4) {
			lay(t, d, p, "")
		}
		mustNotOpen(t, "places "+strconv.FormatUint(x[0], 10)+", "+strconv.FormatUint(x[1], 10), d, api.ErrWal)
	}
	for _, x := range [][2]uint64{{0, 4}, {0, 3}, {3, 7}, {7, 7}, {top - 4, top}, {top, top}} {
		d := slotted(t, 6, "", slot(1, x[0], x[1]))
		for p := range uint64(4) {
			lay(t, d, p, "")
		}
		mustOpen(t, d, make([]string, x[1]-x[0])...)
	}
}

// P7.1: on a disk that has slots alone the ring is of no sectors, which hold no records.
func TestARingOfNoSectors(t *testing.T) {
	for _, at := range []uint64{0, 1, 7, top} {
		d := slotted(t, 2, "", slot(1, at, at))
		w := mustOpen(t, d)
		mustRefuse(t, "Add", w, d, nil, api.ErrFull, func() api.Errno { return w.Add(nil) })
		mustRefuse(t, "Swap", w, d, nil, api.ErrFull, func() api.Errno { return w.Swap([]byte("milk")) })
		mustRefuse(t, "Cut", w, d, nil, api.ErrRange, func() api.Errno { return w.Cut(1) })
		for name, call := range map[string]func() api.Errno{"Add": func() api.Errno { return w.Add() }, "Swap": func() api.Errno { return w.Swap() }, "Cut": func() api.Errno { return w.Cut(0) }} {
			mustBe(t, name+" of none", call(), api.OK)
			mustOpen(t, d)
		}
	}
	for _, x := range [][2]uint64{{0, 1}, {7, 8}, {8, 7}} {
		mustNotOpen(t, "places where no sector is", slotted(t, 2, "", slot(1, x[0], x[1])), api.ErrWal)
	}
}

// P7.2: no frame at the head, or behind the first, the second record; or one of which a bit is turned, be it anywhere.
func TestOpenOfNoFrame(t *testing.T) {
	l := texts(4, 100, 60)
	places := []uint64{3, 4, 6, 8}
	for _, none := range []string{"", "milk", "\xa5", "\xa5\x00\x00", framed("")[:6], "x" + framed(""), noughts(1) + framed("")} {
		for i, p := range places {
			d := laid(t, 12, 1, 3, l...)
			mustWrite(t, d, place(d, p), none)
			if i < len(l) {
				mustNotOpen(t, "no frame", d, api.ErrWal)
			} else {
				mustOpen(t, d, l...)
			}
		}
	}
	whole := ""
	for _, s := range l {
		whole += filled(framed(s))
	}
	for bit := range 8 * len(whole) {
		at := bit / 8
		b := []byte(whole[at/size*size : at/size*size+size])
		b[at%size] ^= 1 << (bit % 8)
		d := laid(t, 12, 1, 3, l...)
		mustWrite(t, d, place(d, 3+uint64(at/size)), string(b))
		if behind := at >= 11 && at < size || at >= size+107 && at < 3*size || at >= 3*size+67; behind {
			mustOpen(t, d, l...)
		} else {
			mustNotOpen(t, "a bit turned", d, api.ErrWal)
		}
	}
}

// P7.2: what lies behind a frame up to its last sector's end, whatever it is, is no record; a record begins where a sector does.
func TestOpenOfOtherBytesBehindAFrame(t *testing.T) {
	for _, behind := range []string{"x", strings.Repeat("x", size-11), framed("bread"), noughts(5) + framed("bread")} {
		d := laid(t, 6, 1, 0, "milk", "cake")
		mustWrite(t, d, 2, framed("milk")+behind)
		mustOpen(t, d, "milk", "cake")
	}
	for _, ahead := range []string{"x", "\x00", "\xa5", noughts(5)} {
		d := laid(t, 6, 1, 0, "milk", "cake")
		mustWrite(t, d, 3, ahead+framed("cake"))
		mustNotOpen(t, "a frame that begins within a sector", d, api.ErrWal)
	}
}

// P7.2: a frame that reaches beyond the tail, be it whole there.
func TestOpenOfAFrameBeyondTheTail(t *testing.T) {
	l := texts(4, 200, 64*3-6)
	for tail := uint64(3); tail < 13; tail++ {
		d := laid(t, 13, 0, 3, l...)
		mustWrite(t, d, 1, slot(1, 3, tail))
		at := map[uint64]int{3: 0, 4: 1, 8: 2, 12: 3}
		if n, is := at[tail]; is {
			mustOpen(t, d, l[:n]...)
		} else {
			mustNotOpen(t, "a frame beyond the tail", d, api.ErrWal)
		}
	}
	// A frame that would go on over the ring's whole round, into itself.
	d := laid(t, 5, 0, 0, text(3*size-7, 1))
	mustWrite(t, d, 2, "\xa5\x00\xc0"+text(size-3, 1))
	mustNotOpen(t, "a frame longer than the ring", d, api.ErrWal)
	// Lengths that no frame has, with a right sum.
	for _, n := range []int{long, long + 1, 1<<16 - 1} {
		b := append([]byte{byte(n >> 8), byte(n)}, text(n, 1)...)
		b = binary.BigEndian.AppendUint32(b, crc.Sum(b))
		d := used(t, 1200)
		mustWrite(t, d, 0, slot(0, 0, spread(t, d, 0, "\xa5"+string(b))))
		if n > long {
			mustNotOpen(t, "a frame too long", d, api.ErrWal)
		} else {
			mustOpen(t, d, text(n, 1))
		}
	}
}

// P7.2: a fault in any sector of a record; in others of the ring none is read.
func TestOpenOfFaults(t *testing.T) {
	l := texts(4, 100, 60)
	for _, head := range []uint64{0, 3, 8} {
		for p := head; p < head+10; p++ {
			d := laid(t, 12, 1, head, l...)
			d.Fault(place(d, p), true)
			if p < head+5 {
				mustNotOpen(t, "a fault", d, api.ErrRead)
			} else {
				mustOpen(t, d, l...)
			}
			d.Fault(place(d, p), false)
			mustOpen(t, d, l...)
		}
	}
}

// P7.2 and P4: a read's error is named ahead of what isn't as it must be, wherever the two are; wrong numbers are told without reading.
func TestOpenOfFaultsAndNoFrames(t *testing.T) {
	for none := range uint64(5) {
		for p := range uint64(5) {
			d := laid(t, 12, 1, 0, texts(4, 100, 60)...)
			mustWrite(t, d, place(d, none), "none")
			d.Fault(place(d, p), true)
			mustNotOpen(t, "a fault and no frame", d, api.ErrRead)
		}
		d := laid(t, 12, 1, 0, texts(4, 100, 60)...)
		mustWrite(t, d, 0, slot(2, 0, 2))
		d.Fault(place(d, none), true)
		want := api.ErrRead
		if none > 1 {
			want = api.ErrWal
		}
		mustNotOpen(t, "a frame beyond the tail, and a fault", d, want)
		mustWrite(t, d, 0, slot(2, 3, 0))
		mustNotOpen(t, "wrong places, and a fault", d, api.ErrWal)
	}
}

// P7.2: Open only reads, what was written last, and tells the same each time.
func TestOpenOnlyReads(t *testing.T) {
	d := laid(t, 12, 1, 7, "milk", "bread")
	lay(t, d, 9, "cake")
	mustWrite(t, d, 0, slot(2, 7, 10))
	d.Arm(0)
	for range 3 {
		mustOpen(t, d, "milk", "bread", "cake")
		if d.Cached() != 2 || d.Dead() {
			t.Fatalf("%d are cached, Dead %t", d.Cached(), d.Dead())
		}
	}
	d.Crash()
	mustOpen(t, d, "milk", "bread")
}

// P7.3: what an opened Wal goes on from: the numbers that were there, whatever their gen and places.
func TestCallsBehindAnOpen(t *testing.T) {
	for _, gen := range []uint64{0, 1, 6, 300, 1<<40 + 1} {
		d := laid(t, 9, gen, 5, "milk", "bread")
		mustBe(t, "Add", mustOpen(t, d, "milk", "bread").Add(make([]byte, 60)), api.OK)
		mustSlot(t, d, gen+1, 5, 9)
		mustBe(t, "Add of none", mustOpen(t, d, "milk", "bread", noughts(60)).Add(), api.OK)
		mustSlot(t, d, gen+2, 5, 9)
		mustBe(t, "Cut", mustOpen(t, d, "milk", "bread", noughts(60)).Cut(2), api.OK)
		mustSlot(t, d, gen+3, 7, 9)
		mustBe(t, "Swap", mustOpen(t, d, noughts(60)).Swap([]byte("cake")), api.OK)
		mustSlot(t, d, gen+4, 9, 10)
		mustBe(t, "Swap of none", mustOpen(t, d, "cake").Swap(), api.OK)
		mustSlot(t, d, gen+5, 10, 10)
		w, _, _ := wal.Open(d)
		mustBe(t, "Cut of none", w.Cut(0), api.OK)
		mustSlot(t, d, gen+6, 10, 10)
	}
}
