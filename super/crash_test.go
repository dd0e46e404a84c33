package super_test

import (
	"bytes"
	"slices"
	"strconv"
	"testing"

	"factotum/api"
	"factotum/disk"
	"factotum/super"
)

// choices are all choices of what a crash keeps of up to n writes: flags may be fewer than writes, or more.
func choices(n int) [][]bool {
	l := [][]bool{nil}
	for count := 1; count <= n; count++ {
		for set := range 1 << count {
			keep := make([]bool, count)
			for i := range keep {
				keep[i] = set>>i&1 == 1
			}
			l = append(l, keep)
		}
	}
	return l
}

// makers are ways to a disk that Load tells of: behind a Format, behind Saves, with the other sector no slot, with the slots where no Save laid them.
func makers() []func(t *testing.T) *disk.Disk {
	saved := func(t *testing.T, from uint64, n int) *disk.Disk {
		d := used(t, 5)
		mustBe(t, "Format", super.Format(d, 5), api.OK)
		for i := range n {
			gen := from + uint64(i)
			mustBe(t, "Save", super.Save(d, gen, gen, 7), api.OK)
		}
		return d
	}
	laid := func(t *testing.T, first, second string) *disk.Disk {
		d := used(t, 5)
		mustWrite(t, d, 0, first)
		mustWrite(t, d, 1, second)
		mustFlush(t, d)
		return d
	}
	var l []func(t *testing.T) *disk.Disk
	for n := range 6 {
		l = append(l, func(t *testing.T) *disk.Disk { return saved(t, 1, n) })
	}
	for _, from := range []uint64{125, 126, 254, 255, 1<<32 - 2, 1 << 40, 1<<63 - 1, top - 3, top - 2} {
		l = append(l, func(t *testing.T) *disk.Disk { return saved(t, from, 2) })
	}
	for _, x := range [][2]string{
		{slot(4, 7), "none"}, {"none", slot(5, 7)}, {slot(5, 7), "none"}, {"none", slot(4, 7)}, {slot(5, 7), slot(4, 8)}, {slot(4, 8), slot(6, 7)},
		{slot(4, 7), slot(4, 8)}, {slot(5, 7), slot(5, 8)}, {slot(9, 7), slot(1, 8)}, {slot(2, 7), slot(8)},
	} {
		l = append(l, func(t *testing.T) *disk.Disk { return laid(t, x[0], x[1]) })
	}
	return l
}

// tells is what Load tells, as a text.
func tells(t *testing.T, d *disk.Disk) string {
	t.Helper()
	gen, l, e := super.Load(d)
	mustBe(t, "Load", e, api.OK)
	return text(gen, l)
}

func text(gen uint64, l []uint64) string {
	s := strconv.FormatUint(gen, 10) + ":"
	for _, n := range l {
		s += " " + strconv.FormatUint(n, 10)
	}
	return s
}

// P6.3: a crash at every step of a Save, with every choice of what is kept, and behind a Save that went well.
func TestACrashWithinASave(t *testing.T) {
	for i, made := range makers() {
		for _, l := range lists() {
			for steps := range 5 {
				for _, keep := range choices(3) {
					d := made(t)
					gen, _, _ := super.Load(d)
					before, behind := tells(t, d), text(gen+1, l)
					mustWrite(t, d, 2, "ahead")
					mustWrite(t, d, 3, "ahead")
					d.Arm(steps)
					e := super.Save(d, gen+1, l...)
					mustBe(t, "Save", e, []api.Errno{api.ErrDisk, api.ErrDisk, api.ErrDisk, api.OK, api.OK}[steps])
					d.Crash(keep...)
					got := tells(t, d)
					if got != before && got != behind || e == api.OK && got != behind {
						t.Fatalf("disk %d, armed to die behind %d, kept %t: %s; ahead %s, saved %s", i, steps, keep, got, before, behind)
					}
					if want := steps > 2 || steps == 2 && len(keep) > 0 && keep[0]; want != (got == behind) {
						t.Fatalf("disk %d, armed to die behind %d, kept %t: %s", i, steps, keep, got)
					}
					// What was written ahead of the Save is there, wherever what was saved is.
					if got == behind {
						mustHold(t, d, 2, "ahead")
						mustHold(t, d, 3, "ahead")
					}
				}
			}
		}
	}
}

// P6.3: a crash behind a Save that was cut off, and behind others that went well ahead of it: no earlier one comes back.
func TestCrashesOneBehindTheOther(t *testing.T) {
	seed := uint64(3)
	next := func(n int) int {
		seed = seed*6364136223846793005 + 1442695040888963407
		return int(seed>>33) % n
	}
	for range 60 {
		d := used(t, 5)
		mustBe(t, "Format", super.Format(d, 7), api.OK)
		for range 200 {
			gen, _, _ := super.Load(d)
			before := tells(t, d)
			l := make([]uint64, next(most+1))
			for i := range l {
				l[i] = numbers()[next(len(numbers()))]
			}
			for range next(3) {
				mustWrite(t, d, 2+next(3), "else")
			}
			d.Arm(next(5) - 1)
			e := super.Save(d, gen+1, l...)
			keep := make([]bool, next(4))
			for i := range keep {
				keep[i] = next(2) == 0
			}
			if e != api.OK || next(2) == 0 {
				d.Crash(keep...)
			}
			d.Arm(-1)
			got := tells(t, d)
			if got != before && got != text(gen+1, l) || e == api.OK && got != text(gen+1, l) {
				t.Fatalf("%s; ahead %s, saved %s, %d", got, before, text(gen+1, l), e)
			}
		}
	}
}

// plainSave is Save as the chapter tells it, by the disk's own calls.
func plainSave(d *disk.Disk, gen uint64, l []uint64) api.Errno {
	if len(l) > most {
		return api.ErrLong
	}
	if e := d.Flush(); e != api.OK {
		return e
	}
	if e := d.Write(int(gen&1), []byte(slot(gen, l...))); e != api.OK {
		return e
	}
	return d.Flush()
}

// plainFormat is Format, likewise.
func plainFormat(d *disk.Disk, l []uint64) api.Errno {
	for at := range 2 {
		if e := d.Write(at, nil); e != api.OK {
			return e
		}
	}
	return plainSave(d, 0, l)
}

// saved is what a slot holds.
type saved struct {
	gen uint64
	l   []uint64
}

// plainLoad is Load, of sectors that are among those known to be slots, or are none.
func plainLoad(d *disk.Disk, known map[string]saved) (saved, api.Errno) {
	var found []saved
	for at := range 2 {
		b, e := d.Read(at)
		if e != api.OK {
			return saved{}, e
		}
		if s, is := known[string(b)]; is {
			found = append(found, s)
		}
	}
	if len(found) == 0 {
		return saved{}, api.ErrSuper
	}
	if len(found) == 2 && found[1].gen > found[0].gen {
		return found[1], api.OK
	}
	return found[0], api.OK
}

// mustBeLike asks that two disks are the same, as far as their calls tell.
func mustBeLike(t *testing.T, d, p *disk.Disk) {
	t.Helper()
	if d.Cached() != p.Cached() || d.Dead() != p.Dead() {
		t.Fatalf("%d are cached, Dead %t, not %d, %t", d.Cached(), d.Dead(), p.Cached(), p.Dead())
	}
	for at := range d.Size() {
		a, e := d.Read(at)
		b, f := p.Read(at)
		if !bytes.Equal(a, b) || e != f {
			t.Fatalf("sector %d: %x, %d, not %x, %d", at, a, e, b, f)
		}
	}
}

// P6.1 to P6.3: all calls in many orders, on two disks: one by the layer, the other by the disk's own calls.
func TestManyOrdersOfAllCalls(t *testing.T) {
	seed := uint64(11)
	next := func(n int) int {
		seed = seed*6364136223846793005 + 1442695040888963407
		return int(seed>>33) % n
	}
	gens := []uint64{0, 0, 1, 2, 3, 4, 5, 127, 128, 300, 1 << 32, 1 << 63, top - 1, top}
	for range 1500 {
		n := next(5)
		d, p := disk.New(n), disk.New(n)
		known := map[string]saved{}
		for range 40 {
			gen, l := gens[next(len(gens))], make([]uint64, next(most+2))
			for i := range l {
				l[i] = gens[next(len(gens))]
			}
			s := slot(gen, l...)
			if len(l) <= most {
				known[filled(s)] = saved{gen, l}
				known[filled(slot(0, l...))] = saved{0, l}
			}
			switch next(10) {
			case 0, 1, 2:
				mustBe(t, "Save", super.Save(d, gen, l...), plainSave(p, gen, l))
			case 3:
				mustBe(t, "Format", super.Format(d, l...), plainFormat(p, l))
			case 4, 5:
				at, b := next(n+1), []byte(s)
				if next(3) == 0 {
					b = b[:next(len(b))]
				}
				mustBe(t, "Write", d.Write(at, b), p.Write(at, b))
			case 6:
				mustBe(t, "Flush", d.Flush(), p.Flush())
			case 7:
				at, on := next(n+1), next(4) == 0
				d.Fault(at, on)
				p.Fault(at, on)
			case 8:
				k := next(9) - 1
				d.Arm(k)
				p.Arm(k)
			case 9:
				keep := choices(3)[next(15)]
				d.Crash(keep...)
				p.Crash(keep...)
			}
			mustBeLike(t, d, p)
			want, wantErr := plainLoad(p, known)
			got, m, e := super.Load(d)
			if got != want.gen || !slices.Equal(m, want.l) || e != wantErr {
				t.Fatalf("Load: %d, %d, %d, not %d, %d, %d", got, m, e, want.gen, want.l, wantErr)
			}
			mustBeLike(t, d, p)
		}
	}
}
