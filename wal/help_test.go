package wal_test

import (
	"bytes"
	"math"
	"slices"
	"strings"
	"testing"

	"factotum/api"
	"factotum/disk"
	"factotum/frame"
	"factotum/super"
	"factotum/wal"
)

const (
	size = api.Sector
	long = api.MaxRecord
	top  = uint64(math.MaxUint64)
)

func noughts(n int) string { return strings.Repeat("\x00", n) }

// filled is s with bytes 0 behind it, up to a sector's end.
func filled(s string) string { return s + noughts((size-len(s)%size)%size) }

// old is what sectors hold ahead of a test.
func old(at int) string { return strings.Repeat(string(rune('A'+at%26)), size) }

// framed is the frame of s.
func framed(s string) string {
	b, _ := frame.Put([]byte(s))
	return string(b)
}

// slot is the super's.
func slot(gen uint64, l ...uint64) string {
	b, _ := super.Slot(gen, l...)
	return string(b)
}

// needed is how many sectors a record of n bytes takes.
func needed(n int) int { return len(filled(strings.Repeat("f", n+7))) / size }

// text is one of n bytes that few others are like.
func text(n, seed int) string {
	b := make([]byte, n)
	for i := range b {
		b[i] = byte(i*7 + seed*31 + i/251)
	}
	return string(b)
}

// texts are some of these lengths.
func texts(lengths ...int) []string {
	var l []string
	for i, n := range lengths {
		l = append(l, text(n, i+len(lengths)))
	}
	return l
}

func asBytes(l []string) [][]byte {
	var all [][]byte
	for _, s := range l {
		all = append(all, []byte(s))
	}
	return all
}

func mustBe(t *testing.T, what string, got, want api.Errno) {
	t.Helper()
	if got != want {
		t.Fatalf("%s: %d, not %d", what, got, want)
	}
}

func mustWrite(t *testing.T, d *disk.Disk, at int, s string) {
	t.Helper()
	mustBe(t, "Write", d.Write(at, []byte(s)), api.OK)
}

// mustHold asks that the sectors from this one on hold s with bytes 0 behind it.
func mustHold(t *testing.T, d *disk.Disk, at int, s string) {
	t.Helper()
	for part := range slices.Chunk([]byte(filled(s)), size) {
		if got, e := d.Read(at); !bytes.Equal(got, part) || e != api.OK {
			t.Fatalf("sector %d: %x, %d, not %x", at, got, e, part)
		}
		at++
	}
}

// used is a disk of n sectors that all hold something old, for good.
func used(t *testing.T, n int) *disk.Disk {
	t.Helper()
	d := disk.New(n)
	for at := range n {
		mustWrite(t, d, at, old(at))
	}
	mustBe(t, "Flush", d.Flush(), api.OK)
	return d
}

// kill makes the disk Dead.
func kill(t *testing.T, d *disk.Disk) {
	t.Helper()
	d.Arm(0)
	d.Flush()
	if !d.Dead() {
		t.Fatal("not Dead")
	}
}

// place is the sector of a place.
func place(d *disk.Disk, p uint64) int { return 2 + int(p%uint64(d.Size()-2)) }

// spread writes s into sectors from this place on, and tells the place behind it.
func spread(t *testing.T, d *disk.Disk, p uint64, s string) uint64 {
	t.Helper()
	for part := range slices.Chunk([]byte(s), size) {
		mustWrite(t, d, place(d, p), string(part))
		p++
	}
	return p
}

// lay writes the frames of these from this place on, and tells the place behind them.
func lay(t *testing.T, d *disk.Disk, p uint64, l ...string) uint64 {
	t.Helper()
	for _, s := range l {
		p = spread(t, d, p, framed(s))
	}
	return p
}

// laid is a disk of n sectors with these records from this place on, written by the disk's own calls.
func laid(t *testing.T, n int, gen, head uint64, l ...string) *disk.Disk {
	t.Helper()
	d := used(t, n)
	tail := lay(t, d, head, l...)
	mustWrite(t, d, int(gen%2), slot(gen, head, tail))
	mustBe(t, "Flush", d.Flush(), api.OK)
	return d
}

// mustTell asks that a Wal tells that it has these records.
func mustTell(t *testing.T, w *wal.Wal, d *disk.Disk, l []string) {
	t.Helper()
	free := d.Size() - 2
	for _, s := range l {
		free -= needed(len(s))
	}
	if w.Len() != len(l) || w.Free() != free {
		t.Fatalf("Len %d, Free %d, not %d, %d", w.Len(), w.Free(), len(l), free)
	}
}

func same(got [][]byte, want []string) bool {
	return slices.EqualFunc(got, want, func(b []byte, s string) bool { return string(b) == s })
}

// mustOpen asks that Open tells these records.
func mustOpen(t *testing.T, d *disk.Disk, l ...string) *wal.Wal {
	t.Helper()
	w, got, e := wal.Open(d)
	if w == nil || !same(got, l) || e != api.OK {
		t.Fatalf("Open: %t, %x, %d, not %x", w != nil, got, e, l)
	}
	mustTell(t, w, d, l)
	return w
}

// mustNotOpen asks that Open tells this error, and nothing else.
func mustNotOpen(t *testing.T, what string, d *disk.Disk, want api.Errno) {
	t.Helper()
	w, l, e := wal.Open(d)
	if w != nil || len(l) != 0 || e != want {
		t.Fatalf("%s: Open: %t, %x, %d, not %d", what, w != nil, l, e, want)
	}
}

// mustSlot asks that the super tells these.
func mustSlot(t *testing.T, d *disk.Disk, gen, head, tail uint64) {
	t.Helper()
	g, l, e := super.Load(d)
	if g != gen || !slices.Equal(l, []uint64{head, tail}) || e != api.OK {
		t.Fatalf("Load: %d, %d, %d, not %d, %d, %d", g, l, e, gen, head, tail)
	}
}

// fresh is a formatted disk of so many sectors in its ring, and its Wal.
func fresh(t *testing.T, ring int) (*disk.Disk, *wal.Wal) {
	t.Helper()
	d := used(t, ring+2)
	mustBe(t, "Format", wal.Format(d), api.OK)
	return d, mustOpen(t, d)
}

// mustBeLike asks that two disks hold the same.
func mustBeLike(t *testing.T, d, p *disk.Disk) {
	t.Helper()
	if d.Size() != p.Size() || d.Dead() != p.Dead() {
		t.Fatalf("%d sectors, Dead %t, not %d, %t", d.Size(), d.Dead(), p.Size(), p.Dead())
	}
	for at := range d.Size() {
		a, e := d.Read(at)
		b, f := p.Read(at)
		if !bytes.Equal(a, b) || e != f {
			t.Fatalf("sector %d: %x, %d, not %x, %d", at, a, e, b, f)
		}
	}
}
