package store_test

import (
	"strconv"
	"testing"

	"factotum/api"
	"factotum/disk"
	"factotum/store"
	"factotum/wal"
)

// base is where a call begins: a disk of so many sectors in its ring, its records, what is there.
type base struct {
	ring    int
	records []string
	h       there
}

// bases leave much room, little, none but for a Compact, and none for that.
func bases() []base {
	ab := there{"a": "1", "b": "2"}
	records := []string{recorded(true, put("a", "1"), put("c", "x")), recorded(false, put("b", "2"), gone("c"))}
	long := there{"long": text(100, 3), "a": "1"}
	return []base{
		{5, []string{recorded(true)}, nil},
		{2, []string{recorded(true)}, nil},
		{2, []string{recorded(true), recorded(false)}, nil},
		{4, []string{recorded(true), recorded(false)}, nil},
		{16, records, ab},
		{5, records, ab},
		{4, records, ab},
		{3, records, ab},
		{6, []string{recorded(false, put("a", "1")), recorded(true, put("b", "2")), recorded(false, put("a", "1")), recorded(false, gone("c"))}, ab},
		{7, []string{recorded(true, put("long", text(100, 3))), recorded(false, put("a", "1")), recorded(false)}, long},
		{20, []string{recorded(true, put("long", text(100, 3))), recorded(false, put("a", "1"))}, long},
	}
}

// commits are Puts as may be committed.
func commits() [][]api.Put {
	return [][]api.Put{
		puts(put("a", "9")),
		puts(gone("a")),
		puts(gone("never")),
		puts(put("a", "9"), gone("b"), put("c", "3"), gone("c"), put("d", "")),
		puts(gone("a"), gone("b"), gone("long")),
		puts(put("b", text(60, 7))),
		puts(put("b", text(120, 7)), gone("a")),
	}
}

// cut is a call on a disk that dies behind so many steps: what it answers, how many writes are cached then, and what is there.
type cut struct {
	e        api.Errno
	cached   int
	compacts bool // the records ahead are one
	happens  bool // what was committed is there
	may      bool // so it is, if the first of the cached writes is kept
}

// cutOf is what becomes of a Compact (sectors of its record; 0: none), of a record behind it (likewise), and of an error then.
func cutOf(compact, own, steps int, full bool) cut {
	if compact > 0 {
		if steps < compact+3 {
			return cut{e: api.ErrDisk, cached: cachedBehind(compact, steps)}
		}
		steps -= compact + 3
	}
	switch {
	case full:
		return cut{e: api.ErrFull, compacts: compact > 0}
	case own == 0:
		return cut{compacts: true}
	case steps < own+3:
		return cut{e: api.ErrDisk, cached: cachedBehind(own, steps), compacts: compact > 0, may: steps == own+2}
	}
	return cut{compacts: compact > 0, happens: true}
}

// cachedBehind is how many writes are cached behind so many steps of a wal's call: of its sectors, a Flush, a slot, a Flush.
func cachedBehind(sectors, steps int) int {
	switch steps {
	case sectors + 1:
		return 0
	case sectors + 2:
		return 1
	}
	return steps
}

// mustOutlast makes the call, lets the disk crash, and asks for what is there then, and that it goes on.
func mustOutlast(t *testing.T, what string, x base, keep []bool, steps int, want cut, after there, call func(s *store.Store) api.Errno) {
	t.Helper()
	d := laid(t, x.ring, x.records...)
	s := mustOpen(t, what, d, x.h)
	d.Arm(steps)
	mustBe(t, what, call(s), want.e)
	if d.Cached() != want.cached {
		t.Fatalf("%s: %d are cached, not %d", what, d.Cached(), want.cached)
	}
	d.Crash(keep...)
	h := x.h
	if want.happens {
		h = after
	}
	mustTell(t, what, s, h)
	if want.may && len(keep) > 0 && keep[0] {
		h = after
	}
	again := mustOpen(t, what, d, h)
	if want.compacts && !want.happens && !want.may {
		mustHave(t, what, d, x.h.whole())
	}
	e := again.Commit(put("n", ""))
	if e == api.OK {
		h = h.happened(put("n", ""))
	} else if e != api.ErrFull {
		t.Fatalf("%s: Commit behind: %d", what, e)
	}
	mustOpen(t, what+", Commit behind", d, h)
}

// P8.5: a crash at every step of a Commit, with a Compact in it and without, with every choice of the writes that are kept: Open tells what was there ahead, or what is behind it; behind one that went well what is behind it.
func TestACrashWithinACommit(t *testing.T) {
	var went [4]int
	for i, x := range bases() {
		free := x.ring
		for _, s := range x.records {
			free -= sectors(s)
		}
		for k, l := range commits() {
			after := x.h.happened(l...)
			way, _ := wayOf(x.ring, free, x.h, l)
			went[way]++
			compact, own := 0, sectors(recorded(false, l...))
			if way == fitsThen || way == fitsNot {
				compact = sectors(x.h.whole())
			}
			for steps := range compact + own + 8 {
				want := cutOf(compact, own, steps, way == fitsNot || way == compactsNot)
				for j, keep := range choices(want.cached) {
					what := "disk " + strconv.Itoa(i) + ", Commit " + strconv.Itoa(k) + ", armed " + strconv.Itoa(steps) + ", choice " + strconv.Itoa(j)
					mustOutlast(t, what, x, keep, steps, want, after, func(s *store.Store) api.Errno { return s.Commit(l...) })
				}
			}
		}
	}
	for way, n := range went {
		if n == 0 {
			t.Errorf("no Commit went way %d", way)
		}
	}
}

// P8.5: a crash at every step of a Compact, with every choice of the writes that are kept: Open tells what was there.
func TestACrashWithinACompact(t *testing.T) {
	for i, x := range bases() {
		compact, free := sectors(x.h.whole()), x.ring
		for _, s := range x.records {
			free -= sectors(s)
		}
		for steps := range compact + 6 {
			want := cutOf(compact, 0, steps, false)
			if compact > free {
				want = cut{e: api.ErrFull}
			}
			for j, keep := range choices(want.cached) {
				what := "disk " + strconv.Itoa(i) + ", Compact, armed " + strconv.Itoa(steps) + ", choice " + strconv.Itoa(j)
				mustOutlast(t, what, x, keep, steps, want, x.h, (*store.Store).Compact)
			}
		}
	}
}

// plain is a store as the chapter tells it, by the wal's calls and records of its own, with no thought of room or time.
type plain struct {
	d    *disk.Disk
	w    *wal.Wal
	h    there
	over bool
}

func (p *plain) format() api.Errno {
	e := wal.Format(p.d)
	if e != api.OK {
		return e
	}
	w, _, e := wal.Open(p.d)
	if e != api.OK {
		return e
	}
	return w.Add([]byte("\x01\x00"))
}

func (p *plain) open() api.Errno {
	w, records, e := wal.Open(p.d)
	if e != api.OK {
		return e
	}
	if len(records) == 0 {
		return api.ErrNone
	}
	p.w, p.h, p.over = w, decoded(records), false
	return api.OK
}

func (p *plain) compact() api.Errno {
	if p.over {
		return api.ErrDisk
	}
	return p.done(p.w.Swap([]byte(p.h.whole())))
}

func (p *plain) done(e api.Errno) api.Errno {
	p.over = e == api.ErrDisk
	return e
}

func (p *plain) commit(l []api.Put) api.Errno {
	if len(l) == 0 {
		return api.OK
	}
	if p.over {
		return api.ErrDisk
	}
	own, after := recorded(false, l...), p.h.happened(l...)
	all := after.whole()
	if len(own) > long || len(all) > long {
		return api.ErrLong
	}
	if sectors(own)+sectors(all) > p.w.Free() {
		if e := p.compact(); e != api.OK {
			return e
		}
	}
	if sectors(own)+sectors(all) > p.w.Free() {
		return api.ErrFull
	}
	e := p.done(p.w.Add([]byte(own)))
	if e == api.OK {
		p.h = after
	}
	return e
}

// some are Puts of few keys, so that many speak of one.
func some(next func(n int) int) []api.Put {
	l := make([]api.Put, next(5))
	for i := range l {
		l[i] = put([]string{"", "a", "b", "ab", "b\x00"}[next(5)], text([]int{0, 1, 7, next(200)}[next(4)], next(200)))
		l[i].Gone = next(3) == 0
	}
	if next(60) == 0 {
		l = append(l, put("a", text(long, 1)))
	}
	return l
}

// decoded is what is there of these records, which are all as Record writes them.
func decoded(records [][]byte) there {
	h := there{}
	for _, b := range records {
		all, l, _ := store.Of(b)
		if all {
			h = nil
		}
		h = h.happened(l...)
	}
	return h
}

// P8.2 to P8.5: all calls in many orders, with crashes, faults and Formats among them, on two disks: one by the layer, the other by the wal's own calls.
func TestManyOrdersOfAllCalls(t *testing.T) {
	next := random(11)
	for range 250 {
		ring := 1 + next(24)
		d, p := used(t, ring+2), &plain{d: used(t, ring+2)}
		mustBe(t, "Format", store.Format(d), p.format())
		mustBe(t, "Open", api.OK, p.open())
		s, _ := store.Open(d)
		for i := range 100 {
			what := "call " + strconv.Itoa(i)
			switch next(14) {
			case 0:
				n := next(14) - 1
				d.Arm(n)
				p.d.Arm(n)
			case 1:
				keep := choices(4)[next(18)]
				d.Crash(keep...)
				p.d.Crash(keep...)
			case 2:
				at, on := next(ring+2), next(3) == 0
				d.Fault(at, on)
				p.d.Fault(at, on)
			case 3, 4, 5:
				if next(15) == 0 {
					mustBe(t, "Format", store.Format(d), p.format())
				}
				v, e := store.Open(d)
				mustBe(t, "Open", e, p.open())
				if e == api.OK {
					s = v
				}
			case 6:
				mustBe(t, "Compact", s.Compact(), p.compact())
			default:
				l := some(next)
				mustBe(t, "Commit", s.Commit(l...), p.commit(l))
			}
			mustBeLike(t, what, d, p.d)
			mustTell(t, what, s, p.h)
			mustCount(t, what, s, p.w.Len())
		}
	}
}

// P8.5: many crashes one behind the other, with or without an Open between: what Open tells is always what was there, or what is behind the call that was cut off.
func TestCrashesOneBehindTheOther(t *testing.T) {
	next := random(13)
	for range 80 {
		d, s := fresh(t, 1+next(20))
		h := there{}
		for range 120 {
			l := some(next)
			call, after := func() api.Errno { return s.Commit(l...) }, h.happened(l...)
			if next(6) == 0 {
				call, after = s.Compact, h
			}
			d.Arm(next(20) - 4)
			e := call()
			if e != api.OK || next(3) == 0 {
				d.Crash(choices(5)[next(34)]...)
			}
			d.Arm(-1)
			v, opened := store.Open(d)
			mustBe(t, "Open", opened, api.OK)
			switch {
			case e == api.OK:
				h = after
			case e == api.ErrDisk && told(v).whole() == after.whole():
				h = after
			}
			mustTell(t, "Open", v, h)
			if e == api.ErrDisk || next(4) == 0 {
				s = v
			}
			mustTell(t, "the Store", s, h)
		}
	}
}

// told is what a Store tells.
func told(s *store.Store) there {
	h := there{}
	for key, val := range s.Keys("") {
		h[key] = string(val)
	}
	return h
}
