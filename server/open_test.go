package server_test

import (
	"fmt"
	"strings"
	"testing"

	"factotum/api"
	"factotum/disk"
	"factotum/server"
	"factotum/store"
	"factotum/super"
	"factotum/wal"
)

// used is a disk that holds something old in each sector.
func used(t *testing.T, sectors int) *disk.Disk {
	t.Helper()
	d := disk.New(sectors)
	for at := range sectors {
		mustBe(t, "Write", d.Write(at, []byte(strings.Repeat("old ", 16))), api.OK)
	}
	mustBe(t, "Flush", d.Flush(), api.OK)
	return d
}

// bare are disks of so many sectors without a store, each made anew, and what store.Open tells of them.
func bare(t *testing.T, sectors int) ([]*disk.Disk, []api.Errno) {
	t.Helper()
	of := func(change func(d *disk.Disk) api.Errno) *disk.Disk {
		d := used(t, sectors)
		mustBe(t, "bare", change(d), api.OK)
		return d
	}
	l := []*disk.Disk{
		disk.New(sectors), used(t, sectors), of(wal.Format),
		of(func(d *disk.Disk) api.Errno { return super.Save(d, 7, 5, 5) }),
		of(func(d *disk.Disk) api.Errno { return super.Save(d, greatest, 0, 0) }),
	}
	return l, []api.Errno{api.ErrSuper, api.ErrSuper, api.ErrNone, api.ErrNone, api.ErrNone}
}

// P18.1: a disk that holds no store is formatted, of each size; what is there then is a store without keys, and goes on.
func TestOpenOfADiskWithoutAStore(t *testing.T) {
	for _, sectors := range []int{3, 4, 5, 16, 200, 4096} {
		l, errs := bare(t, sectors)
		for i, d := range l {
			what := fmt.Sprintf("disk %d of %d", i, sectors)
			_, e := store.Open(d)
			mustBe(t, what, e, errs[i])
			mustOpen(t, what, d, plain{})
			mustKeep(t, what, d, plain{})
			d.Crash()
			b := &both{d: d, s: mustOpen(t, what, d, plain{})}
			if sectors >= 16 {
				b.do(t, what, hello(1, 3), push(1, 3, item(9, 1)))
				b.open(t)
			}
		}
	}
}

// P18.1: of a disk too small the store's errors are told.
func TestOpenOfADiskTooSmall(t *testing.T) {
	for _, d := range []*disk.Disk{nil, {}, new(disk.Disk), disk.New(-1), disk.New(0), disk.New(1)} {
		mustNotOpen(t, "no place for a super", d, api.ErrRange)
	}
	mustNotOpen(t, "no place for a ring", disk.New(2), api.ErrFull)
	mustNotOpen(t, "no place for a ring", used(t, 2), api.ErrFull)
}

// P18.1: of a dead disk nothing is opened, whatever it holds.
func TestOpenOfADeadDisk(t *testing.T) {
	l, _ := bare(t, 20)
	for _, d := range append(l, written(t, 20), written(t, 20, api.Put{Key: "what"}), disk.New(0), disk.New(2)) {
		kill(t, d)
		mustNotOpen(t, "dead", d, api.ErrDisk)
		mustNotOpen(t, "still dead", d, api.ErrDisk)
	}
}

// P18.1: a disk that dies while it is formatted, at each step: ErrDisk; behind any crash it is opened.
func TestOpenOfADiskThatDiesAmid(t *testing.T) {
	l, _ := bare(t, 5)
	for i := range l {
		for steps := 0; ; steps++ {
			d := l[i].Clone()
			d.Arm(steps)
			if _, e := server.Open(d); e == api.OK {
				// Five to format the wal, and four to add a record.
				if steps != 9 {
					t.Fatalf("disk %d: %d steps", i, steps)
				}
				break
			}
			cached := d.Cached()
			for _, keep := range choices(cached) {
				d := l[i].Clone()
				d.Arm(steps)
				mustNotOpen(t, "amid", d, api.ErrDisk)
				if d.Cached() != cached {
					t.Fatalf("disk %d: %d are cached", i, d.Cached())
				}
				d.Crash(keep...)
				mustOpen(t, "behind", d, plain{})
				mustKeep(t, "behind", d, plain{})
			}
		}
	}
}

// rich is a server that has something of all kinds.
func rich() plain {
	p := plain{
		first: 300, base: 300, based: true, state: small(),
		lasts: map[uint64]uint64{1: 1, 9: 3, 255: 127, 256: 128, 1 << 56: 1 << 40, greatest: greatest},
		boots: map[uint64]uint64{0: 1, 1: 3, 65536: 1 << 40, greatest: greatest},
	}
	p.items = append(items(9, 1, 3), item(1, 1))
	p.items = append(p.items, api.Item{Ident: 5, Id: 7, Mut: api.Mut{Kind: api.MutEdit, Id: 3, Text: "cook"}})
	return p
}

// P18.1: where a sector that is read has a fault, that is told, and nothing is formatted; without it all is as it was.
func TestOpenOfADiskWithFaults(t *testing.T) {
	p := rich()
	d := written(t, 40, p.puts()...)
	_, records, _ := wal.Open(d)
	read := 2
	for _, x := range records {
		read += wal.Need(x)
	}
	for at := range 40 {
		c := d.Clone()
		c.Fault(at, true)
		if at >= read {
			mustOpen(t, "a fault where nothing is", c, p)
			continue
		}
		mustNotOpen(t, "a fault", c, api.ErrRead)
		c.Fault(at, false)
		mustOpen(t, "a fault that is gone", c, p)
	}
	for at := range 2 {
		c := disk.New(20)
		c.Fault(at, true)
		mustNotOpen(t, "a fault of a new disk", c, api.ErrRead)
	}
}

// P18.1: what the store's Open tells otherwise is told, and nothing is formatted.
func TestOpenOfAStoreThatIsWrong(t *testing.T) {
	record := func(b ...[]byte) *disk.Disk {
		d := disk.New(20)
		mustBe(t, "Format", wal.Format(d), api.OK)
		w, _, _ := wal.Open(d)
		mustBe(t, "Add", w.Add(b...), api.OK)
		return d
	}
	saved := func(l ...uint64) *disk.Disk {
		d := disk.New(20)
		mustBe(t, "Format", super.Format(d, l...), api.OK)
		return d
	}
	right := store.Record(true)
	for i, x := range []struct {
		d *disk.Disk
		e api.Errno
	}{
		{saved(), api.ErrWal}, {saved(1), api.ErrWal}, {saved(2, 1), api.ErrWal}, {saved(0, 19), api.ErrWal}, {saved(0, 1), api.ErrWal}, {saved(0, 0, 0), api.ErrWal},
		{record([]byte("what")), api.ErrStore}, {record(right, nil), api.ErrStore}, {record(nil, right), api.ErrStore}, {record(append(right, 0)), api.ErrStore},
	} {
		_, e := store.Open(x.d)
		mustBe(t, fmt.Sprintf("disk %d, store.Open", i), e, x.e)
		x.d.Arm(0)
		for range 2 {
			mustNotOpen(t, fmt.Sprintf("disk %d", i), x.d, x.e)
		}
		if x.d.Dead() {
			t.Fatalf("disk %d: something is written", i)
		}
	}
}

// P18.1: of a store without keys, and of one with all kinds of them, nothing is written, and what they tell is there.
func TestOpenWritesNothing(t *testing.T) {
	for _, p := range []plain{{}, rich()} {
		d := written(t, 40, p.puts()...)
		d.Arm(0)
		for range 3 {
			mustOpen(t, "nothing written", d, p)
		}
		if d.Dead() {
			t.Fatal("something is written")
		}
		mustKeep(t, "nothing written", d, p)
	}
}

// P18.1: the keys by hand.
func TestOpenByHand(t *testing.T) {
	mut := "\x01\x05\x00\x01l" + "\x80\x00\x00\x00\x00\x00\x00\x00" + "\x00" // MutList 5, "l", key of 0
	state := "\x01\x02\x04food\x00"
	d := written(t, 40,
		api.Put{Key: "b", Val: []byte("\x82\x01\x2c" + "\x08" + state)},
		api.Put{Key: "e\x00\x00\x00\x00\x00\x00\x01\x2d", Val: []byte("\x09\x02\x0e" + mut)},
		api.Put{Key: "e\x00\x00\x00\x00\x00\x00\x01\x2c", Val: []byte("\x81\xfe\x01\x0e" + mut)},
		api.Put{Key: "d\x00\x00\x00\x00\x00\x00\x00\x09", Val: []byte("\x02")},
		api.Put{Key: "d\x00\x00\x00\x00\x00\x00\x00\xfe", Val: []byte("\x01")},
		api.Put{Key: "l\x00\x00\x00\x00\x00\x00\x00\x00", Val: []byte("\x82\x01\x00")},
		api.Put{Key: "l\x01\x00\x00\x00\x00\x00\x00\x01", Val: []byte("\x88\xff\xff\xff\xff\xff\xff\xff\xff")},
	)
	add := api.Mut{Kind: api.MutList, Id: 5, Text: "l"}
	p := plain{
		first: 300, base: 300, based: true, state: api.State{Lists: []api.List{{Id: 2, Name: "food"}}},
		items: []api.Item{{Ident: 254, Id: 1, Mut: add}, {Ident: 9, Id: 2, Mut: add}},
		lasts: map[uint64]uint64{9: 2, 254: 1}, boots: map[uint64]uint64{0: 256, 1<<56 + 1: greatest},
	}
	mustOpen(t, "by hand", d, p)
	mustKeep(t, "by hand", d, p)
}

// P18.1: each kind of key alone, and each left out.
func TestOpenOfSomeKeys(t *testing.T) {
	without := func(change func(p *plain)) plain {
		p := rich()
		change(&p)
		return p
	}
	noBase := func(p *plain) { p.first, p.base, p.based, p.state = 0, 0, false, api.State{} }
	for _, p := range []plain{
		without(noBase),
		without(func(p *plain) { p.items = nil }),
		without(func(p *plain) { p.lasts = nil }),
		without(func(p *plain) { p.boots = nil }),
		without(func(p *plain) { p.first, p.base = 0, 0 }),
		without(func(p *plain) { p.state = api.State{} }),
		{first: 1, base: 1, based: true}, {based: true},
		{items: items(9, 1, 2)}, {items: items(9, 4, 40)},
		{lasts: map[uint64]uint64{3: 1}}, {boots: map[uint64]uint64{3: 1}},
	} {
		b := laid(t, 200, p)
		mustKeep(t, "some", b.d, p)
		b.do(t, "some", hello(2, 9), push(2, 9, item(77, 1)), pull(2, 9, 300))
		b.open(t)
		b.compact(t, 1)
		b.open(t)
	}
}

// P18.1: a number 0 is one, too, and counts as none.
func TestOpenOfNumbersOfNought(t *testing.T) {
	d := written(t, 40,
		api.Put{Key: key("d", 5), Val: number(0)}, api.Put{Key: key("d", 0), Val: number(5)},
		api.Put{Key: key("l", 2), Val: number(0)}, api.Put{Key: "b", Val: based(0, api.State{})},
	)
	s := mustOpen(t, "noughts", d, plain{})
	mustTell(t, "Hello", s.Do(hello(2, 1)), one(api.Msg{Kind: api.Welcome, Line: 2, Boot: 1}))
	mustTell(t, "Push", s.Do(push(2, 1, item(5, 1))), one(api.Msg{Kind: api.Ack, Boot: 1, Lasts: []api.Last{{Ident: 5, Id: 1}}}))
	mustOpen(t, "noughts", d, plain{based: true, items: items(5, 1, 1), lasts: map[uint64]uint64{5: 1}, boots: map[uint64]uint64{2: 1}})
}

// P18.1: what a Server wrote, behind each of its calls.
func TestOpenOfWhatAServerWrote(t *testing.T) {
	b := begun(t, roomy)
	step := func(l ...api.Msg) {
		t.Helper()
		for _, m := range l {
			b.do(t, "wrote", m)
			b.open(t)
		}
	}
	step(hello(1, 3), push(1, 3, item(9, 1)), push(1, 3, items(9, 2, 9)...), hello(0, 1), hello(greatest, greatest), hello(1, 4))
	step(push(0, 1, item(greatest, 1), item(3, 1), item(9, 10), item(3, 2), item(greatest, 2)))
	for _, keep := range []uint64{20, 13, 12, 5, 5, 4} {
		b.compact(t, keep)
		b.open(t)
	}
	step(push(0, 1, items(3, 3, 10)...), pull(0, 1, 0), pull(0, 1, 18))
	b.compact(t, 0)
	b.open(t)
	step(push(0, 1, items(3, 11, 13)...))
}

// P18.1, P18.4: a Base that a Compact brings above what a clog.New takes is opened, too.
func TestOpenAboveWhatANewLogTakes(t *testing.T) {
	for _, first := range []uint64{mostGone - 2, mostGone - 1, mostGone, mostGone + 1, mostGone + 300} {
		b := laid(t, 300, plain{first: first, base: first, based: true, state: small(), boots: map[uint64]uint64{1: 3}})
		b.do(t, "above", push(1, 3, items(9, 1, 5)...))
		b.open(t)
		for keep := uint64(6); keep > 0; keep-- {
			b.compact(t, keep-1)
			b.open(t)
			b.do(t, "above", pull(1, 3, first+2), push(1, 3, item(7, 7-keep)), pull(1, 3, b.p.base), pull(1, 3, b.p.version()+1))
		}
	}
}
