package server_test

import (
	"fmt"
	"math"
	"slices"
	"strings"
	"testing"

	"factotum/api"
	"factotum/disk"
	"factotum/server"
	"factotum/wire"
)

// anyMut is one that mutate.Check passes, and that goes well often.
func anyMut(r func(n int) int) api.Mut {
	id := uint64(1 + r(5))
	return oneOf(r,
		api.Mut{Kind: api.MutList, Id: id, Text: oneOf(r, "a", "b")}, api.Mut{Kind: api.MutMake, Id: id, List: uint64(1 + r(3)), Text: "t", F: float64(r(4))},
		api.Mut{Kind: api.MutMake, Id: id + 5, List: uint64(1 + r(3)), Text: "t", F: float64(r(4))}, api.Mut{Kind: api.MutEdit, Id: id, Text: oneOf(r, "c", "d")},
		api.Mut{Kind: api.MutTag, Id: id, Text: oneOf(r, "a", "b", "c")}, api.Mut{Kind: api.MutDone, Id: id, Flag: r(2) == 0}, api.Mut{Kind: api.MutDelete, Id: id},
		api.Mut{Kind: api.MutSpread, List: id}, api.Mut{Kind: api.MutDrop, Id: uint64(1 + r(9))},
	)
}

// anyNumber is one next to a number, most often the next one.
func anyNumber(r func(n int) int, n uint64) uint64 {
	return oneOf(r, n+1, n+1, n+1, n+1, n+1, n+2, n+3, max(n, 1), max(n, 2)-1)
}

// anyItems are some that may well come to a server with these last numbers: of few identities, with old, next and too high numbers.
func anyItems(r func(n int) int, lasts func(ident uint64) uint64) []api.Item {
	next := map[uint64]uint64{}
	var l []api.Item
	for range 1 + r(8) {
		ident := oneOf(r, uint64(1), 2, 300, greatest)
		if _, is := next[ident]; !is {
			next[ident] = lasts(ident)
		}
		x := api.Item{Ident: ident, Id: anyNumber(r, next[ident]), Mut: anyMut(r)}
		next[ident] = max(next[ident], x.Id)
		l = append(l, x)
	}
	return l
}

// anyMsg is one that may well come to such a server, of another kind now and then, or one that is refused.
func anyMsg(r func(n int) int, p plain) api.Msg {
	line := oneOf(r, uint64(0), 1, 2, greatest)
	boot := p.boots[line]
	if r(6) == 0 {
		boot = max(boot, 1) - 1 + uint64(r(3))
	}
	m := api.Msg{Kind: oneOf(r, api.Hello, api.Push, api.Push, api.Push, api.Pull, api.Pull, 1+r(8)), Line: line, Boot: boot}
	switch m.Kind {
	case api.Hello:
		m.Boot += uint64(r(2) * r(2))
	case api.Push:
		m.Items = anyItems(r, func(ident uint64) uint64 { return p.lasts[ident] })
	case api.Pull:
		m.From = oneOf(r, p.base, p.base+uint64(r(9)), p.version(), p.version()-uint64(r(9)), p.base-1, uint64(r(40)), greatest)
	}
	if r(30) == 0 {
		m.To = 1
	}
	return m
}

// P18.1 to P18.3: many made-up runs, with Open and Compact among them, each step held against lists and maps.
func TestManyRuns(t *testing.T) {
	r := random(3)
	kinds := map[int]int{}
	for range 60 {
		b := begun(t, roomy)
		for range 60 {
			switch r(12) {
			case 0:
				b.open(t)
			case 1:
				b.compact(t, oneOf(r, 0, 1, uint64(r(30)), b.p.version(), greatest))
			default:
				m := anyMsg(r, b.p)
				for range 1 + r(2)*r(2) {
					_, _, told := b.p.do(m)
					b.do(t, "many", m)
					for _, x := range told {
						kinds[x.Kind]++
					}
				}
			}
		}
	}
	for _, kind := range []int{api.Welcome, api.Fenced, api.Ack, api.News, api.Snap} {
		if kinds[kind] < 100 {
			t.Errorf("kind %d was told %d times", kind, kinds[kind])
		}
	}
}

// told is what a server answered: how much of the log there was then, and the boots and last numbers.
type told struct {
	at           uint64
	boots, lasts map[uint64]uint64
}

// mustBeKept asks for what P18.4 says of a Server behind a crash, with all that was ever committed.
func mustBeKept(t *testing.T, what string, s *server.Server, x told, all []api.Item) {
	t.Helper()
	log, table := s.Log(), s.Table()
	if log.Version() < x.at {
		t.Fatalf("%s: Version is %d, and was %d", what, log.Version(), x.at)
	}
	p := plain{items: all}
	for v := log.Base(); v <= x.at; v++ {
		l, _ := log.Items(v, int(x.at-v))
		state, is := log.At(v)
		if !is || !slices.EqualFunc(l, all[v:x.at], wire.SameItem) || string(based(0, state)) != string(based(0, p.at(v))) {
			t.Fatalf("%s: behind %d the log is another one: %+v, not %+v", what, v, l, all[v:x.at])
		}
	}
	for line, boot := range x.boots {
		if s.Boot(line) < boot {
			t.Fatalf("%s: line %d has %d, and had %d", what, line, s.Boot(line), boot)
		}
	}
	for ident, id := range x.lasts {
		if table.Last(ident) < id {
			t.Fatalf("%s: identity %d has %d, and had %d", what, ident, table.Last(ident), id)
		}
	}
}

// P18.4: many made-up runs, on disks with room and without, with a crash amid any write, and Open behind it: what was told is kept; what is there is what was there ahead, or what is behind the call that was cut off; and it goes on from there.
func TestCrashes(t *testing.T) {
	r := random(4)
	died, more, refused := 0, 0, 0
	for range 100 {
		b := begun(t, oneOf(r, 12, 40, 80, 200, 600))
		kept := told{}
		for range 80 {
			x := b.p.said(anyMsg(r, b.p))
			if r(8) == 0 {
				x = b.p.compacts(oneOf(r, 0, 1, uint64(r(30)), b.p.version()))
			}
			if len(x.puts) > 0 && !b.fits(t, x.after, x.puts) {
				mustFail(t, x, b, api.ErrFull)
				refused++
				continue
			}
			b.d.Arm(r(14) - 2)
			got, e := x.make(b.s)
			if !b.d.Dead() {
				b.d.Arm(-1)
				mustTell(t, x.what, got, x.told)
				mustBe(t, x.what, e, api.OK)
				b.p = x.after
				kept = told{b.p.version(), b.p.boots, b.p.lasts}
				mustSee(t, x.what, b.s, b.p)
				if r(6) > 0 {
					continue
				}
			} else {
				died++
				if got != nil || x.compacting() && e != api.ErrDisk {
					t.Fatalf("%s: told %+v, %d", x.what, got, e)
				}
				mustSee(t, x.what, b.s, b.p)
			}
			b.d.Crash(choices(5)[r(18)]...)
			s, e := server.Open(b.d)
			mustBe(t, "Open", e, api.OK)
			mustBeKept(t, "behind a crash", s, kept, x.after.items)
			was := b.p.version()
			b.p = b.mustBeEither(t, "behind a crash", x.after)
			if b.p.version() > was {
				more++
			}
			b.s = s
		}
	}
	if died < 150 || more < 10 || refused < 20 {
		t.Errorf("%d died, %d had more, %d were refused", died, more, refused)
	}
}

// P18.4: a Server goes on telling what it knew, when its disk died and came back, and commits nothing any more; what another one commits then isn't lost by it.
func TestAnOldServer(t *testing.T) {
	r := random(5)
	for range 40 {
		b := begun(t, 300)
		for range 10 {
			b.do(t, "ahead", anyMsg(r, b.p))
		}
		kill(t, b.d)
		mustFail(t, b.p.said(hello(3, 1)), b, api.ErrDisk)
		b.d.Crash()
		o := &both{d: b.d, p: b.p}
		o.open(t)
		for range 20 {
			o.do(t, "the new one", anyMsg(r, o.p))
			x := b.p.said(anyMsg(r, b.p))
			if len(x.puts) > 0 {
				mustFail(t, x, b, api.ErrDisk)
			} else {
				got, _ := x.make(b.s)
				mustTell(t, "the old one", got, x.told)
			}
			mustSee(t, "the old one", b.s, b.p)
		}
		o.open(t)
	}
}

// P18.5: many made-up rows of Pushes, behind Opens, Compacts and crashes, too: each (Ident, Id) stands once, the Ids of each Ident one behind the other, from 1 on.
func TestOnce(t *testing.T) {
	r := random(6)
	stood := 0
	for range 60 {
		d := disk.New(1000)
		s, _ := server.Open(d)
		s.Do(hello(1, 3))
		s.Do(hello(2, 3))
		var all []api.Item
		for range 60 {
			s.Do(push(uint64(1+r(2)), 3, anyItems(r, s.Table().Last)...))
			// Ahead of a Compact, which may take it away.
			more, is := s.Log().Items(uint64(len(all)), math.MaxInt)
			if !is {
				t.Fatalf("from %d to %d, behind %d", s.Log().Base(), s.Log().Version(), len(all))
			}
			all = append(all, more...)
			mustStandOnce(t, all, s)
			switch r(8) {
			case 0:
				s.Compact(uint64(r(9)))
			case 1:
				d.Crash()
				s, _ = server.Open(d)
			case 2:
				d.Arm(r(9))
				s.Compact(uint64(r(9)))
				s.Do(push(1, 3, anyItems(r, s.Table().Last)...))
				d.Crash(r(2) == 0)
				s, _ = server.Open(d)
			}
		}
		stood += len(all)
	}
	if stood < 3000 {
		t.Errorf("%d items", stood)
	}
}

// mustStandOnce asks for P18.5 of all items of a Server's log, and that the table tells of them.
func mustStandOnce(t *testing.T, all []api.Item, s *server.Server) {
	t.Helper()
	lasts := map[uint64]uint64{}
	for i, x := range all {
		if x.Id != lasts[x.Ident]+1 {
			t.Fatalf("item %d of %+v", i, all)
		}
		lasts[x.Ident] = x.Id
	}
	if s.Log().Version() != uint64(len(all)) {
		t.Fatalf("Version is %d, of %d items", s.Log().Version(), len(all))
	}
	for x := range s.Table().All() {
		if lasts[x.Ident] != x.Id {
			t.Fatalf("the table tells %+v, not %d", x, lasts[x.Ident])
		}
		delete(lasts, x.Ident)
	}
	if len(lasts) > 0 {
		t.Fatalf("the table doesn't tell %v", lasts)
	}
}

// P3: the same calls, the same answers; a nil list is an empty one.
func TestTheSameAnswers(t *testing.T) {
	r := random(7)
	for range 40 {
		a, b := begun(t, roomy), begun(t, roomy)
		for range 30 {
			m := anyMsg(r, a.p)
			n := m
			if len(m.Items) == 0 {
				n.Items = []api.Item{}
			}
			n.Lasts, n.State = []api.Last{}, api.State{Lists: []api.List{}, Tasks: []api.Task{}}
			if got, want := fmt.Sprintf("%+v", b.s.Do(n)), fmt.Sprintf("%+v", a.s.Do(m)); got != want {
				t.Fatalf("%+v: told %s, and %s", m, got, want)
			}
			a.p, _, _ = a.p.do(m)
			mustSee(t, "the one", a.s, a.p)
			mustSee(t, "the other", b.s, a.p)
		}
	}
}

// P1: no call panics, whatever is handed in, in whatever order.
func TestAnyArguments(t *testing.T) {
	r := random(8)
	long := strings.Repeat("\xff", 100)
	numbers := []uint64{0, 1, 2, 3, 127, 1 << 31, 1 << 32, 1 << 40, 1 << 63, greatest - 1, greatest}
	anyOf := func() uint64 { return oneOf(r, numbers...) }
	for range 150 {
		d := disk.New(oneOf(r, 3, 5, 9, 60, 300))
		s, _ := server.Open(d)
		for range 60 {
			m := api.Msg{Kind: r(11) - 1, Line: anyOf(), Boot: anyOf(), From: anyOf(), To: anyOf()}
			if r(2) == 0 {
				m = api.Msg{Kind: oneOf(r, api.Hello, api.Push, api.Pull), Line: uint64(r(2)), Boot: uint64(r(4))}
			}
			for range r(10) {
				x := item(anyOf(), anyOf())
				if r(4) == 0 {
					x.Mut = api.Mut{Kind: r(16) - 1, Id: anyOf(), List: anyOf(), Text: oneOf(r, "", "a", long), F: oneOf(r, 0, math.NaN(), math.Inf(1))}
				}
				m.Items = append(m.Items, x)
			}
			if r(5) == 0 {
				m.Lasts, m.State = make([]api.Last, r(3)), api.State{Lists: make([]api.List, r(30)), Tasks: make([]api.Task, r(90))}
			}
			for _, x := range s.Do(m) {
				if x.Boot != m.Boot || wire.Check(x) != api.OK {
					t.Fatal(m, x)
				}
			}
			s.Compact(anyOf())
			s.Boot(anyOf())
			s.Log().Add(m.Items...)
			s.Table().Take(anyOf(), anyOf())
			switch r(12) {
			case 0:
				d.Arm(r(9))
			case 1:
				d.Crash(r(2) == 0, r(2) == 0)
			case 2:
				d.Fault(r(9), r(3) == 0)
			case 3:
				if o, e := server.Open(d); e == api.OK {
					s = o
				}
			}
		}
	}
}
