package server_test

import (
	"fmt"
	"testing"

	"factotum/api"
	"factotum/disk"
	"factotum/server"
	"factotum/wal"
)

// call is one that commits something: what becomes of a server, and how it is made.
type call struct {
	what  string
	after plain
	puts  []api.Put
	told  []api.Msg
	make  func(s *server.Server) ([]api.Msg, api.Errno)
}

// said is the call of Do.
func (p plain) said(m api.Msg) call {
	after, puts, told := p.do(m)
	return call{fmt.Sprintf("%+v", m), after, puts, told, func(s *server.Server) ([]api.Msg, api.Errno) { return s.Do(room(m)), api.OK }}
}

// compacts is the call of Compact.
func (p plain) compacts(keep uint64) call {
	after, puts := p.compact(keep)
	return call{fmt.Sprintf("Compact(%d)", keep), after, puts, nil, func(s *server.Server) ([]api.Msg, api.Errno) { return nil, s.Compact(keep) }}
}

// compacting: the call is one of Compact.
func (x call) compacting() bool { return x.puts[0].Key == "b" }

// committing are calls that commit something, on a server with items of identity 9 for line 1 and boot 3.
func (p plain) committing() []call {
	next := p.lasts[9] + 1
	l := []call{
		p.said(hello(1, 4)), p.said(hello(2, 1)), p.said(hello(greatest, greatest)),
		p.said(push(1, 3, item(9, next))), p.said(push(1, 3, item(9, 1), item(9, next), item(8, 2))), p.said(push(1, 3, items(9, next, next+7)...)),
		p.said(push(1, 3, item(4, 1), item(9, next), item(5, 1), item(4, 2), item(9, next+1))),
	}
	for keep := uint64(0); keep < p.version()-p.base; keep += 2 {
		l = append(l, p.compacts(keep))
	}
	return l
}

// mustFail asks that the call tells nothing (of Compact: this error), and changes nothing of the Server.
func mustFail(t *testing.T, x call, b *both, want api.Errno) {
	t.Helper()
	got, e := x.make(b.s)
	if !x.compacting() {
		want = api.OK
	}
	mustBe(t, x.what, e, want)
	if got != nil {
		t.Fatalf("%s: told %+v", x.what, got)
	}
	mustSee(t, x.what, b.s, b.p)
}

// mustReadStill asks that what commits nothing is told as ever, though nothing can be committed.
func (b *both) mustReadStill(t *testing.T) {
	t.Helper()
	for _, m := range []api.Msg{
		hello(1, 3), hello(1, 2), pull(1, 3, b.p.base), pull(1, 3, b.p.version()), pull(1, 3, greatest), pull(1, 2, 0), push(1, 2, item(9, 1)), push(1, 3, item(9, 1)), push(1, 3, item(8, 2)),
	} {
		after, puts, want := b.p.do(m)
		if len(puts) > 0 {
			t.Fatalf("%+v commits something", m)
		}
		mustTell(t, "still", b.s.Do(m), want)
		mustSee(t, "still", b.s, after)
	}
	mustBe(t, "Compact of nothing", b.s.Compact(greatest), api.OK)
}

// P18.2, P18.3: on a dead disk each call that commits tells nothing and changes nothing, again and again; the others are told as ever, also behind a crash.
func TestADeadDisk(t *testing.T) {
	for _, x := range grown(t, 6, 1).p.committing() {
		b := grown(t, 6, 1)
		kill(t, b.d)
		for range 2 {
			mustFail(t, x, b, api.ErrDisk)
			b.mustReadStill(t)
		}
		// The store is at an end, whatever becomes of the disk.
		b.d.Crash()
		mustFail(t, x, b, api.ErrDisk)
		b.mustReadStill(t)
		mustKeep(t, "dead", b.d, b.p)
		b.open(t)
	}
}

// full is a server on a disk of so many sectors, on which nothing more of what is pushed fits.
func full(t *testing.T, sectors int) *both {
	t.Helper()
	b := begun(t, sectors)
	b.do(t, "full", hello(1, 3))
	for id := uint64(1); ; id++ {
		after, puts, _ := b.p.do(push(1, 3, item(9, id)))
		fits := b.fits(t, after, puts)
		got := b.s.Do(push(1, 3, item(9, id)))
		if (got != nil) != fits {
			t.Fatalf("%d sectors: item %d fits: %t", sectors, id, fits)
		}
		if got == nil {
			return b
		}
		b.p = after
	}
}

// fits: so it does, into what the disk has now.
func (b *both) fits(t *testing.T, after plain, puts []api.Put) bool {
	t.Helper()
	w, _, e := wal.Open(b.d)
	mustBe(t, "wal.Open", e, api.OK)
	return b.p.fits(b.d.Size(), w.Free(), after, puts)
}

// P18.2, P18.3: on a full disk what doesn't fit tells nothing and changes nothing; what fits is told, Compacts among them, and then there is room.
func TestAFullDisk(t *testing.T) {
	refused := 0
	for _, sectors := range []int{10, 12, 17, 25, 40, 80} {
		for i := range full(t, sectors).p.committing() {
			b := full(t, sectors)
			x := b.p.committing()[i]
			if b.fits(t, x.after, x.puts) {
				got, e := x.make(b.s)
				mustBe(t, x.what, e, api.OK)
				mustTell(t, x.what, got, x.told)
				b.p = x.after
				mustSee(t, x.what, b.s, b.p)
			} else {
				mustFail(t, x, b, api.ErrFull)
				refused++
			}
			mustKeep(t, x.what, b.d, b.p)
			b.mustReadStillOf(t, x)
			b.open(t)
		}
		b := full(t, sectors)
		next := b.p.lasts[9] + 1
		mustBe(t, "Compact", b.s.Compact(0), api.OK)
		b.p, _ = b.p.compact(0)
		mustTell(t, "room", b.s.Do(push(1, 3, item(9, next))), one(api.Msg{Kind: api.Ack, Boot: 3, Lasts: last(9, next)}))
	}
	if refused < 20 {
		t.Errorf("%d are refused", refused)
	}
}

// P18.3: a Compact that doesn't fit, as the state is long and few items go, is ErrFull, and changes nothing.
func TestACompactThatDoesNotFit(t *testing.T) {
	refused, done := 0, 0
	for n := range uint64(40) {
		p := plain{first: 300, base: 300, based: true, state: small(), lasts: map[uint64]uint64{9: 6}, boots: map[uint64]uint64{1: 3}, items: items(9, 1, 6)}
		for ident := range n {
			p.lasts[ident+20] = 1
		}
		least := 3
		for !(plain{}).fits(least, least-3, p, p.puts()) {
			least++
		}
		for sectors := least; sectors < least+3; sectors++ {
			for keep := range uint64(6) {
				b := laid(t, sectors, p)
				x := b.p.compacts(keep)
				if b.fits(t, x.after, x.puts) {
					mustBe(t, x.what, b.s.Compact(keep), api.OK)
					b.p = x.after
					done++
				} else {
					for range 2 {
						mustFail(t, x, b, api.ErrFull)
					}
					refused++
				}
				mustKeep(t, x.what, b.d, b.p)
				b.mustReadStill(t)
				b.open(t)
			}
		}
	}
	if refused < 40 || done < 100 {
		t.Errorf("%d are refused, %d are not", refused, done)
	}
}

// mustReadStillOf is mustReadStill, unless line 1 has another boot by now.
func (b *both) mustReadStillOf(t *testing.T, x call) {
	t.Helper()
	if b.p.boots[1] == 3 {
		b.mustReadStill(t)
	}
}

// P18.2, P18.3: on the least disks nothing can be committed at all, as no record fits beside the one that there is.
func TestTheLeastDisks(t *testing.T) {
	for _, sectors := range []int{3, 4} {
		b := begun(t, sectors)
		for range 2 {
			mustFail(t, b.p.said(hello(1, 3)), b, api.ErrFull)
			mustKeep(t, "the least", b.d, b.p)
			b.open(t)
		}
		mustTell(t, "the least", b.s.Do(hello(1, 0)), nil)
		mustTell(t, "the least", b.s.Do(pull(1, 3, 0)), one(api.Msg{Kind: api.Fenced, Line: 1, Boot: 3}))
		mustBe(t, "Compact", b.s.Compact(0), api.OK)
	}
	b := begun(t, 5)
	for boot := range uint64(20) {
		mustTell(t, "one more", b.s.Do(hello(1, boot+1)), one(api.Msg{Kind: api.Welcome, Line: 1, Boot: boot + 1}))
	}
	b.p.boots = map[uint64]uint64{1: 20}
	b.open(t)
}

// P18.2, P18.3: what is too long for the store is refused, as is the whole that would be there.
func TestTooLong(t *testing.T) {
	p := plain{lasts: map[uint64]uint64{}, boots: map[uint64]uint64{1: 3}}
	for ident := range uint64(4095) {
		p.lasts[ident+1] = 1
	}
	b := laid(t, 4096, p)
	// There are 4096 keys; a line that has one may still get a greater number.
	for _, m := range []api.Msg{hello(2, 1), push(1, 3, item(9, 2)), push(1, 3, item(5000, 1))} {
		mustFail(t, p.said(m), b, api.OK)
	}
	mustTell(t, "greater", b.s.Do(hello(1, 5)), one(api.Msg{Kind: api.Welcome, Line: 1, Boot: 5}))
	mustTell(t, "no less", b.s.Do(hello(1, 4)), one(api.Msg{Kind: api.Fenced, Line: 1, Boot: 4}))
	p = plain{boots: map[uint64]uint64{1: 3}, lasts: map[uint64]uint64{9: 1600}, items: items(9, 1, 1600)}
	for n := range p.items {
		p.items[n] = api.Item{Ident: 9, Id: uint64(n) + 1, Mut: api.Mut{Kind: api.MutEdit, Id: 1, Text: "x"}}
	}
	b = laid(t, 4096, p)
	for id := uint64(1601); ; id++ {
		after, puts, _ := b.p.do(push(1, 3, item(9, id)))
		fits := b.fits(t, after, puts)
		if got := b.s.Do(push(1, 3, item(9, id))); (got != nil) != fits {
			t.Fatal(id, got, fits)
		}
		if !fits {
			break
		}
		b.p = after
	}
	mustSee(t, "too long", b.s, b.p)
	mustBe(t, "Compact", b.s.Compact(100), api.OK)
	b.p, _ = b.p.compact(100)
	b.open(t)
}

// P18.2 to P18.4: the disk dies at each step of each call, with room and without, and then crashes, with every choice of what is kept: nothing is told, nothing has changed, and Open tells what was there ahead, or what is behind the call.
func TestTheDiskDiesAmid(t *testing.T) {
	disks := []func() *both{
		func() *both { return grown(t, 6, 1) },
		func() *both { return grown(t, 3, 3) },
		func() *both { return full(t, 30) },
		func() *both { b := full(t, 40); b.compact(t, 3); return b },
	}
	ahead, behind := 0, 0
	for i, begin := range disks {
		first := begin()
		for _, x := range first.p.committing() {
			if !first.fits(t, x.after, x.puts) {
				continue
			}
			for steps := 0; ; steps++ {
				b := &both{d: first.d.Clone(), p: first.p}
				b.open(t)
				b.d.Arm(steps)
				x.make(b.s)
				if !b.d.Dead() {
					b.d.Crash()
					mustOpen(t, "it went well", b.d, x.after)
					break
				}
				for _, keep := range choices(b.d.Cached()) {
					what := fmt.Sprintf("disk %d, %s, %d steps, %t", i, x.what, steps, keep)
					b := &both{d: first.d.Clone(), p: first.p}
					b.open(t)
					b.d.Arm(steps)
					mustFail(t, x, b, api.ErrDisk)
					b.d.Crash(keep...)
					b.p = b.mustBeEither(t, what, x.after)
					if b.p.version() == x.after.version() && b.p.base == x.after.base && b.p.boots[1] == x.after.boots[1] && len(b.p.boots) == len(x.after.boots) {
						behind++
					} else {
						ahead++
					}
					b.open(t)
				}
			}
		}
	}
	if ahead < 1000 || behind < 50 {
		t.Errorf("%d as ahead, %d as behind", ahead, behind)
	}
}

// mustBeEither asks that Open tells what b has, or this, and which of the two.
func (b *both) mustBeEither(t *testing.T, what string, after plain) plain {
	t.Helper()
	s, e := server.Open(b.d)
	mustBe(t, what, e, api.OK)
	for _, p := range []plain{b.p, after} {
		if seen(s) == p.seen() {
			mustKeep(t, what, b.d, p)
			return p
		}
	}
	t.Fatalf("%s: Open tells\n%s, neither\n%s, nor\n%s", what, seen(s), b.p.seen(), after.seen())
	return plain{}
}

// P18.2: a sector that can't be read is nothing to a Server that runs, as it reads no more.
func TestAFaultWhileItRuns(t *testing.T) {
	b := grown(t, 6, 1)
	for at := range b.d.Size() {
		b.d.Fault(at, true)
	}
	for _, m := range []api.Msg{push(1, 3, item(9, 7)), hello(2, 1), pull(1, 3, 0)} {
		after, _, want := b.p.do(m)
		mustTell(t, "a fault", b.s.Do(m), want)
		b.p = after
	}
	mustBe(t, "Compact", b.s.Compact(1), api.OK)
	b.p, _ = b.p.compact(1)
	mustNotOpen(t, "a fault", b.d, api.ErrRead)
	for at := range b.d.Size() {
		b.d.Fault(at, false)
	}
	b.open(t)
}

// P18.2: two Servers of one disk: neither is harmed by what the other one does, whatever becomes of the disk.
func TestTheDiskIsTakenAway(t *testing.T) {
	b := grown(t, 6, 1)
	b.d.Wipe()
	b.mustReadStill(t)
	for _, x := range b.p.committing() {
		x.make(b.s)
		server.Open(b.d)
		x.make(b.s)
	}
	*b.d = disk.Disk{}
	for _, x := range b.p.committing() {
		x.make(b.s)
	}
}
