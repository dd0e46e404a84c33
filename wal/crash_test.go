package wal_test

import (
	"slices"
	"strconv"
	"testing"

	"factotum/api"
	"factotum/disk"
	"factotum/super"
	"factotum/wal"
)

// choices are all choices of what a crash keeps of n writes, and some that have flags for fewer of them, or for more.
func choices(n int) [][]bool {
	l := [][]bool{nil, slices.Repeat([]bool{true}, n+2)}
	for set := range 1 << n {
		keep := make([]bool, n)
		for i := range keep {
			keep[i] = set>>i&1 == 1
		}
		l = append(l, keep)
	}
	return l
}

// change is a call, by its kind and its arguments.
type change struct {
	kind string
	n    int
	l    []string
}

func (c change) do(w *wal.Wal) api.Errno {
	switch c.kind {
	case "Add":
		return w.Add(asBytes(c.l)...)
	case "Swap":
		return w.Swap(asBytes(c.l)...)
	}
	return w.Cut(c.n)
}

// behind are the records behind the change.
func (c change) behind(l []string) []string {
	switch c.kind {
	case "Add":
		return slices.Concat(l, c.l)
	case "Swap":
		return c.l
	}
	return l[c.n:]
}

// writes is how many sectors of the ring it writes.
func (c change) writes() int {
	n := 0
	for _, s := range c.l {
		n += needed(len(s))
	}
	return n
}

// changes are such as may be made of n records.
func changes(n int) []change {
	var l []change
	for k := range n + 1 {
		l = append(l, change{kind: "Cut", n: k})
	}
	for _, kind := range []string{"Add", "Swap"} {
		for _, s := range [][]string{nil, {""}, {"bread"}, {"bread", "cake"}, {text(60, 9)}, {"bread", text(100, 9), "cake"}, {text(200, 9), ""}, {text(300, 9)}} {
			l = append(l, change{kind: kind, l: s})
		}
	}
	return l
}

// makers are ways to a disk with records: laid by the disk's own calls, formatted, and left by a Wal that went round; with the room that the greatest change takes, and often no more.
func makers() []func(t *testing.T) (*disk.Disk, []string) {
	var all []func(t *testing.T) (*disk.Disk, []string)
	add := func(n int, gen, head uint64, l ...string) {
		all = append(all, func(t *testing.T) (*disk.Disk, []string) { return laid(t, n, gen, head, l...), l })
	}
	for head := range uint64(7) {
		add(9, head, head, "milk", text(57, 3))
	}
	add(7, 3, 4)
	add(12, 8, 1<<40, text(100, 2), "", text(60, 2))
	add(10, 126, 126, "milk", text(100, 3))
	add(10, 127, 127, "milk", text(100, 3))
	add(10, 6, top, nil...)
	add(10, 6, top-3, "milk", text(100, 3))
	add(10, top-1, top-9, "milk", text(100, 3))
	add(10, top, 7, "milk", text(100, 3))
	all = append(all, func(t *testing.T) (*disk.Disk, []string) {
		d, _ := fresh(t, 5)
		return d, nil
	}, func(t *testing.T) (*disk.Disk, []string) {
		d, w := fresh(t, 9)
		for i := range 30 {
			mustBe(t, "Add", w.Add([]byte(text(i*9, i)), []byte("milk")), api.OK)
			mustBe(t, "Cut", w.Cut(w.Len()-1), api.OK)
		}
		return d, []string{"milk"}
	})
	return all
}

// mustOutlast makes the change on a disk that dies behind so many steps, lets it crash, and asks that Open tells what it must.
func mustOutlast(t *testing.T, what string, c change, steps int, keep []bool, d *disk.Disk, l []string) {
	t.Helper()
	w := mustOpen(t, d, l...)
	d.Arm(steps)
	e := c.do(w)
	writes := c.writes()
	want := api.ErrDisk
	if steps >= writes+3 {
		want = api.OK
	}
	mustBe(t, what, e, want)
	d.Crash(keep...)
	slotKept := steps == writes+2 && len(keep) > 0 && keep[0]
	after := l
	if e == api.OK || slotKept {
		after = c.behind(l)
	}
	_, got, opened := wal.Open(d)
	if !same(got, after) || opened != api.OK {
		t.Fatalf("%s: Open: %x, %d, not %x", what, got, opened, after)
	}
	// What is there goes on as if nothing had happened.
	again := mustOpen(t, d, after...)
	if again.Free() == 0 {
		mustBe(t, what+", Cut behind", again.Cut(1), api.OK)
		after = after[1:]
	}
	mustBe(t, what+", Add behind", again.Add([]byte("more")), api.OK)
	mustOpen(t, d, append(slices.Clone(after), "more")...)
}

// P7.4: a crash at every step of an Add, a Swap, a Cut, with every choice of the writes that are kept, and behind one that went well.
func TestACrashWithinAChange(t *testing.T) {
	for i, made := range makers() {
		_, l := made(t)
		for k, c := range changes(len(l)) {
			for steps := range c.writes() + 5 {
				cached := 1
				if steps <= c.writes() {
					cached = steps
				}
				for j, keep := range choices(cached) {
					d, l := made(t)
					what := "disk " + strconv.Itoa(i) + ", " + c.kind + " " + strconv.Itoa(k) + ", armed " + strconv.Itoa(steps) + ", choice " + strconv.Itoa(j)
					mustOutlast(t, what, c, steps, keep, d, l)
				}
			}
		}
	}
}

// P7.4: what others have cached ahead of a call may be kept or not; the records are there all the same.
func TestACrashWithOtherWritesCached(t *testing.T) {
	for _, c := range changes(2) {
		for steps := range c.writes() + 4 {
			for _, keep := range choices(2) {
				d := laid(t, 12, 4, 3, "milk", text(57, 3))
				w := mustOpen(t, d, "milk", text(57, 3))
				// A free sector: nothing is promised of it.
				mustWrite(t, d, 2, "else")
				d.Arm(steps)
				e := c.do(w)
				d.Crash(append(keep, true, true)...)
				_, got, opened := wal.Open(d)
				before, behind := []string{"milk", text(57, 3)}, c.behind([]string{"milk", text(57, 3)})
				if opened != api.OK || e == api.OK && !same(got, behind) || !same(got, before) && !same(got, behind) {
					t.Fatalf("%s: Open: %x, %d", c.kind, got, opened)
				}
			}
		}
	}
}

// plain is a wal as the chapter tells it, by the disk's own calls, with its records at hand.
type plain struct {
	d     *disk.Disk
	gen   uint64
	head  uint64
	l     []string
	over  bool
	slots map[string][]uint64 // those that were ever written, by their bytes
}

func (p *plain) need(l []string) uint64 { return uint64(change{l: l}.writes()) }

func (p *plain) free() int { return p.d.Size() - 2 - int(p.need(p.l)) }

// save is super.Save, with the next gen.
func (p *plain) save(gen, head, tail uint64) api.Errno {
	if e := p.d.Flush(); e != api.OK {
		return e
	}
	s := slot(gen, head, tail)
	p.slots[filled(s)] = []uint64{gen, head, tail}
	if e := p.d.Write(int(gen%2), []byte(s)); e != api.OK {
		return e
	}
	return p.d.Flush()
}

func (p *plain) put(l []string) api.Errno {
	at := p.head + p.need(p.l)
	for _, s := range l {
		for part := range slices.Chunk([]byte(framed(s)), size) {
			if e := p.d.Write(place(p.d, at), part); e != api.OK {
				return e
			}
			at++
		}
	}
	return api.OK
}

// make makes the change.
func (p *plain) make(c change) api.Errno {
	if p.over {
		return api.ErrDisk
	}
	if c.kind == "Cut" && (c.n < 0 || c.n > len(p.l)) {
		return api.ErrRange
	}
	for _, s := range c.l {
		if len(s) > long {
			return api.ErrLong
		}
	}
	if int(p.need(c.l)) > p.free() {
		return api.ErrFull
	}
	tail := p.head + p.need(p.l) + p.need(c.l)
	head := tail - p.need(c.behind(p.l))
	e := p.put(c.l)
	if e == api.OK {
		e = p.save(p.gen+1, head, tail)
	}
	if e != api.OK {
		p.over = true
		return e
	}
	p.gen, p.head, p.l = p.gen+1, head, c.behind(p.l)
	return api.OK
}

// held is the record whose frame the bytes begin with.
func held(b string) (string, bool) {
	if len(b) < 3 || b[0] != 0xa5 {
		return "", false
	}
	n := int(b[1])<<8 + int(b[2])
	if len(b) < n+7 || framed(b[3:3+n]) != b[:n+7] {
		return "", false
	}
	return b[3 : 3+n], true
}

// open is Open, of slots that were written ahead.
func (p *plain) open() api.Errno {
	var found []uint64
	for at := range 2 {
		b, e := p.d.Read(at)
		if e != api.OK {
			return e
		}
		if s, is := p.slots[string(b)]; is && (found == nil || s[0] > found[0]) {
			found = s
		}
	}
	if found == nil {
		return api.ErrSuper
	}
	var all string
	for at := found[1]; at < found[2]; at++ {
		b, e := p.d.Read(place(p.d, at))
		if e != api.OK {
			return e
		}
		all += string(b)
	}
	var l []string
	for len(all) > 0 {
		s, is := held(all)
		if !is {
			return api.ErrWal
		}
		l = append(l, s)
		all = all[needed(len(s))*size:]
	}
	p.gen, p.head, p.l, p.over = found[0], found[1], l, false
	return api.OK
}

// format is Format.
func (p *plain) format() api.Errno {
	for at := range 2 {
		if e := p.d.Write(at, nil); e != api.OK {
			return e
		}
	}
	return p.save(0, 0, 0)
}

// random tells numbers below n, the same ones each time.
func random(seed uint64) func(n int) int {
	return func(n int) int {
		seed = seed*6364136223846793005 + 1442695040888963407
		return int(seed>>33) % n
	}
}

// some is a change, be it one that is refused.
func some(next func(n int) int, count int) change {
	switch next(5) {
	case 0:
		return change{kind: "Cut", n: next(count+3) - 1}
	case 1:
		return change{kind: "Swap", l: somes(next)}
	}
	return change{kind: "Add", l: somes(next)}
}

func somes(next func(n int) int) []string {
	l := make([]string, next(4))
	for i := range l {
		l[i] = text([]int{0, 4, 56, 57, 58, 121, 122, next(300)}[next(8)], next(200))
	}
	if next(40) == 0 {
		l = append(l, text(long+1+next(3), 0))
	}
	return l
}

// P7.1 to P7.4: all calls in many orders, with crashes, faults and Formats among them, on two disks: one by the layer, the other by the disk's own calls.
func TestManyOrdersOfAllCalls(t *testing.T) {
	next := random(5)
	for range 400 {
		ring := 1 + next(14)
		d := used(t, ring+2)
		p := &plain{d: used(t, ring+2), slots: map[string][]uint64{}}
		mustBe(t, "Format", wal.Format(d), p.format())
		w, _, e := wal.Open(d)
		mustBe(t, "Open", e, p.open())
		for range 120 {
			switch next(12) {
			case 0:
				n := next(12) - 1
				d.Arm(n)
				p.d.Arm(n)
			case 1:
				keep := choices(4)[next(18)]
				d.Crash(keep...)
				p.d.Crash(keep...)
			case 2:
				at, on := next(ring+2), next(3) == 0
				d.Fault(at, on)
				p.d.Fault(at, on)
			case 3, 4:
				v, l, e := wal.Open(d)
				mustBe(t, "Open", e, p.open())
				if e == api.OK {
					if !same(l, p.l) {
						t.Fatalf("Open: %x, not %x", l, p.l)
					}
					w = v
				}
			case 5:
				if next(8) == 0 {
					// Open follows: what a Wal does on a disk that was formatted under it isn't asked.
					mustBe(t, "Format", wal.Format(d), p.format())
					w, p.over, p.l = nil, true, nil
				}
			default:
				c := some(next, len(p.l))
				mustBe(t, c.kind, c.do(w), p.make(c))
			}
			mustBeLike(t, d, p.d)
			if d.Cached() != p.d.Cached() {
				t.Fatalf("%d are cached, not %d", d.Cached(), p.d.Cached())
			}
			if w != nil && (w.Len() != len(p.l) || w.Free() != p.free()) {
				t.Fatalf("Len %d, Free %d, not %d, %d", w.Len(), w.Free(), len(p.l), p.free())
			}
		}
	}
}

// P7.4: many crashes one behind the other, with or without an Open between: what Open tells is always what was there, or what is behind the call that was cut off.
func TestCrashesOneBehindTheOther(t *testing.T) {
	next := random(9)
	for range 60 {
		d, w := fresh(t, 1+next(12))
		var l []string
		for range 150 {
			c := some(next, len(l))
			d.Arm(next(16) - 4)
			e := c.do(w)
			if e != api.OK || next(3) == 0 {
				d.Crash(choices(5)[next(34)]...)
			}
			d.Arm(-1)
			v, got, opened := wal.Open(d)
			cut := e == api.ErrDisk && same(got, c.behind(l))
			if e == api.OK {
				l = c.behind(l)
			}
			if opened != api.OK || !cut && !same(got, l) {
				t.Fatalf("%s: %d; Open: %x, %d, not %x", c.kind, e, got, opened, l)
			}
			if e == api.ErrDisk || next(4) == 0 {
				w = v
				l = nil
				for _, b := range got {
					l = append(l, string(b))
				}
			}
		}
	}
}

// P7.3: how many steps of the disk a call takes, whatever was there: a write of each sector, and a Save.
func TestStepsOfACall(t *testing.T) {
	for _, c := range changes(2) {
		for _, head := range []uint64{0, 7} {
			d := laid(t, 12, 4, head, "milk", text(57, 3))
			w := mustOpen(t, d, "milk", text(57, 3))
			d.Arm(c.writes() + 3)
			mustBe(t, c.kind, c.do(w), api.OK)
			if d.Flush() != api.ErrDisk {
				t.Fatalf("%s takes fewer steps than %d", c.kind, c.writes()+3)
			}
			d.Crash()
			gen, _, _ := super.Load(d)
			if gen != 5 {
				t.Fatalf("%s: gen %d", c.kind, gen)
			}
		}
	}
}
