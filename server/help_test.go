package server_test

import (
	"encoding/binary"
	"fmt"
	"maps"
	"math"
	"slices"
	"strings"
	"testing"

	"factotum/api"
	"factotum/disk"
	"factotum/fold"
	"factotum/server"
	"factotum/store"
	"factotum/task"
	"factotum/wal"
	"factotum/wire"
)

const (
	greatest = math.MaxUint64
	mostGone = 1 << 40 // the greatest base with which a clog.New begins
	roomy    = 1500    // sectors of a disk on which nothing gets full
)

// plain is a server as the chapter tells it, of lists and maps, without a disk. Its calls change nothing of it.
type plain struct {
	first uint64    // items ahead of those that it has
	state api.State // behind those
	items []api.Item
	base  uint64
	based bool // the store has a "b"
	lasts map[uint64]uint64
	boots map[uint64]uint64
}

func (p plain) version() uint64 { return p.first + uint64(len(p.items)) }

// at is the state behind the first v items.
func (p plain) at(v uint64) api.State {
	s, _ := fold.All(p.state, p.items[:v-p.first]...)
	return s
}

// from are the items from an index on.
func (p plain) from(v uint64) []api.Item { return p.items[v-p.first:] }

// of is the Last of each of these identities that has one, rising.
func (p plain) of(idents []uint64) []api.Last {
	var l []api.Last
	for _, ident := range slices.Compact(slices.Sorted(slices.Values(idents))) {
		if id, is := p.lasts[ident]; is {
			l = append(l, api.Last{Ident: ident, Id: id})
		}
	}
	return l
}

func (p plain) all() []api.Last { return p.of(slices.Collect(maps.Keys(p.lasts))) }

// one is an answer that is one message.
func one(m api.Msg) []api.Msg { return []api.Msg{m} }

// do is what becomes of the server, what is committed for that, and what is answered.
func (p plain) do(m api.Msg) (plain, []api.Put, []api.Msg) {
	if wire.Check(m) != api.OK {
		return p, nil, nil
	}
	boot := p.boots[m.Line]
	switch {
	case m.Kind == api.Hello && m.Boot > boot:
		p.boots = with(p.boots, m.Line, m.Boot)
		return p, []api.Put{{Key: key("l", m.Line), Val: number(m.Boot)}}, one(api.Msg{Kind: api.Welcome, Line: m.Line, Boot: m.Boot})
	case m.Kind == api.Hello && m.Boot == boot:
		return p, nil, one(api.Msg{Kind: api.Welcome, Line: m.Line, Boot: m.Boot})
	case m.Kind != api.Hello && m.Kind != api.Push && m.Kind != api.Pull:
		return p, nil, nil
	case m.Boot != boot:
		return p, nil, one(api.Msg{Kind: api.Fenced, Line: m.Line, Boot: m.Boot})
	case m.Kind == api.Push:
		return p.push(m)
	case p.base <= m.From && m.From <= p.version():
		next := p.from(m.From)
		next = next[:min(len(next), 8)]
		return p, nil, one(api.Msg{Kind: api.News, Boot: m.Boot, From: m.From, To: m.From + uint64(len(next)), Items: next})
	}
	return p, nil, one(api.Msg{Kind: api.Snap, Boot: m.Boot, To: p.version(), Lasts: p.all(), State: p.at(p.version())})
}

func (p plain) push(m api.Msg) (plain, []api.Put, []api.Msg) {
	var puts []api.Put
	var who, fresh []uint64
	gap := false
	for _, x := range m.Items {
		who = append(who, x.Ident)
		last := p.lasts[x.Ident]
		gap = gap || x.Id > last && x.Id-last > 1
		if gap || x.Id <= last {
			continue
		}
		puts = append(puts, api.Put{Key: key("e", p.version()), Val: wire.PutItem(x)})
		p.items, p.lasts = behind(p.items, x), with(p.lasts, x.Ident, x.Id)
		fresh = append(fresh, x.Ident)
	}
	for _, x := range p.of(fresh) {
		puts = append(puts, api.Put{Key: key("d", x.Ident), Val: number(x.Id)})
	}
	lasts := p.of(who)
	if len(lasts) == 0 {
		return p, puts, nil
	}
	return p, puts, one(api.Msg{Kind: api.Ack, Boot: m.Boot, Lasts: lasts})
}

// compact is what becomes of the server, and what is committed for that.
func (p plain) compact(keep uint64) (plain, []api.Put) {
	to := uint64(0)
	if keep < p.version() {
		to = p.version() - keep
	}
	if to <= p.base {
		return p, nil
	}
	puts := []api.Put{{Key: "b", Val: based(to, p.at(to))}}
	for i := p.base; i < to; i++ {
		puts = append(puts, api.Put{Key: key("e", i), Gone: true})
	}
	p.base, p.based = to, true
	return p, puts
}

// puts are those that keep the server, in a store that has nothing else.
func (p plain) puts() []api.Put {
	var l []api.Put
	if p.based {
		l = append(l, api.Put{Key: "b", Val: based(p.base, p.at(p.base))})
	}
	for _, x := range p.all() {
		l = append(l, api.Put{Key: key("d", x.Ident), Val: number(x.Id)})
	}
	for i, x := range p.from(p.base) {
		l = append(l, api.Put{Key: key("e", p.base+uint64(i)), Val: wire.PutItem(x)})
	}
	for _, line := range slices.Sorted(maps.Keys(p.boots)) {
		l = append(l, api.Put{Key: key("l", line), Val: number(p.boots[line])})
	}
	return l
}

// fits: a store of a disk of so many sectors, free of its ring as many, takes these Puts, by what its chapter says.
func (p plain) fits(sectors, free int, after plain, puts []api.Put) bool {
	change, whole := store.Record(false, puts...), store.Record(true, after.puts()...)
	if len(puts) > 4096 || wal.Need(change) == 0 || wal.Need(whole) == 0 {
		return false
	}
	need := wal.Need(change) + wal.Need(whole)
	return need <= free || need <= sectors-2-wal.Need(store.Record(true, p.puts()...))
}

// seen is all that a Server of this kind tells.
func (p plain) seen() string {
	var b strings.Builder
	fmt.Fprintf(&b, "from %d to %d: %+v; ", p.base, p.version(), p.from(p.base))
	for _, v := range amid(p.base, p.version()) {
		fmt.Fprintf(&b, "%+v; ", p.at(v))
	}
	fmt.Fprintf(&b, "%+v; ", p.all())
	for _, line := range lines() {
		fmt.Fprintf(&b, "%d, ", p.boots[line])
	}
	return b.String()
}

// seen is all that a Server tells; what it told is spoilt.
func seen(s *server.Server) string {
	var b strings.Builder
	log, table := s.Log(), s.Table()
	items, _ := log.Items(log.Base(), math.MaxInt)
	fmt.Fprintf(&b, "from %d to %d: %+v; ", log.Base(), log.Version(), items)
	for _, v := range amid(log.Base(), log.Version()) {
		state, _ := log.At(v)
		fmt.Fprintf(&b, "%+v; ", state)
	}
	lasts := slices.Collect(table.All())
	fmt.Fprintf(&b, "%+v; ", lasts)
	for _, line := range lines() {
		fmt.Fprintf(&b, "%d, ", s.Boot(line))
	}
	log.Add(item(77, 77))
	log.Compact(log.Version())
	table.Take(77, 1)
	for _, x := range lasts {
		table.Take(x.Ident, x.Id+1)
	}
	return b.String()
}

// amid are versions from the first to the last one.
func amid(a, b uint64) []uint64 { return []uint64{a, a + (b-a)/3, a + (b-a)/2, b} }

// lines are those that are asked for their boots.
func lines() []uint64 {
	return []uint64{0, 1, 2, 3, 4, 255, 256, 65536, 1 << 32, 1<<32 + 1, 1 << 40, 1 << 56, 1<<56 + 1, 1 << 63, greatest - 1, greatest}
}

// with is m with one more key, or another number of it.
func with(m map[uint64]uint64, k, v uint64) map[uint64]uint64 {
	c := map[uint64]uint64{}
	maps.Copy(c, m)
	c[k] = v
	return c
}

// behind is l in memory of its own, with x behind it.
func behind[T any](l []T, x T) []T { return append(append(make([]T, 0, len(l)+1), l...), x) }

// key is the letter and K8 of the number.
func key(letter string, n uint64) string {
	return string(binary.BigEndian.AppendUint64([]byte(letter), n))
}

// number is N of it.
func number(n uint64) []byte {
	if n < 128 {
		return []byte{byte(n)}
	}
	b := binary.BigEndian.AppendUint64(nil, n)
	for b[0] == 0 {
		b = b[1:]
	}
	return append([]byte{byte(128 + len(b))}, b...)
}

// based is N of the base and B of task.Put of the state.
func based(n uint64, s api.State) []byte {
	b := task.Put(s)
	return slices.Concat(number(n), number(uint64(len(b))), b)
}

// Items that add a list each.
func item(ident, id uint64) api.Item {
	return api.Item{Ident: ident, Id: id, Mut: api.Mut{Kind: api.MutList, Id: id, Text: "l"}}
}

// items are those of one identity, with numbers from the first to the last one.
func items(ident, first, last uint64) []api.Item {
	var l []api.Item
	for id := first; id <= last; id++ {
		l = append(l, item(ident, id))
	}
	return l
}

func hello(line, boot uint64) api.Msg { return api.Msg{Kind: api.Hello, Line: line, Boot: boot} }

func push(line, boot uint64, l ...api.Item) api.Msg {
	return api.Msg{Kind: api.Push, Line: line, Boot: boot, Items: l}
}

func pull(line, boot, from uint64) api.Msg {
	return api.Msg{Kind: api.Pull, Line: line, Boot: boot, From: from}
}

// small is a Right state.
func small() api.State {
	return api.State{
		Lists: []api.List{{Id: 2, Name: "food"}, {Id: 1 << 40, Name: "work"}},
		Tasks: []api.Task{
			{Id: 3, List: 2, Title: "eat", Rank: 1, Est: 4, Tags: []string{"b", "d"}},
			{Id: 7, List: 2, Title: "drink", Done: true, Rank: -2.5, Est: math.Inf(1)},
		},
	}
}

func mustBe(t *testing.T, what string, got, want api.Errno) {
	t.Helper()
	if got != want {
		t.Fatalf("%s: %d, not %d", what, got, want)
	}
}

// mustSee asks that a Server tells just this, and twice over, as what it told is spoilt.
func mustSee(t *testing.T, what string, s *server.Server, p plain) {
	t.Helper()
	for range 2 {
		if got, want := seen(s), p.seen(); got != want {
			t.Fatalf("%s:\n%s, not\n%s", what, got, want)
		}
	}
}

// mustKeep asks that the store of a disk has just the keys that the chapter lists, for good.
func mustKeep(t *testing.T, what string, d *disk.Disk, p plain) {
	t.Helper()
	s, e := store.Open(d.Clone())
	mustBe(t, what+", store.Open", e, api.OK)
	var got []api.Put
	for k, val := range s.Keys("") {
		got = append(got, api.Put{Key: k, Val: val})
	}
	if got, want := spelt(got), spelt(p.puts()); got != want {
		t.Fatalf("%s: the store has\n%s, not\n%s", what, got, want)
	}
}

// spelt are Puts by their keys.
func spelt(l []api.Put) string {
	var b []string
	for _, x := range l {
		b = append(b, fmt.Sprintf("%q is %q, %t", x.Key, x.Val, x.Gone))
	}
	slices.Sort(b)
	return strings.Join(b, "; ")
}

// mustOpen asks for a Server that tells just this.
func mustOpen(t *testing.T, what string, d *disk.Disk, p plain) *server.Server {
	t.Helper()
	s, e := server.Open(d)
	if s == nil || e != api.OK {
		t.Fatalf("%s: Open: %t, %d", what, s != nil, e)
	}
	mustSee(t, what+", Open", s, p)
	return s
}

// mustNotOpen asks for this error, and no Server.
func mustNotOpen(t *testing.T, what string, d *disk.Disk, want api.Errno) {
	t.Helper()
	if s, e := server.Open(d); s != nil || e != want {
		t.Fatalf("%s: Open: %t, %d, not %d", what, s != nil, e, want)
	}
}

// mustTell asks for these answers: nil, where there are none.
func mustTell(t *testing.T, what string, got, want []api.Msg) {
	t.Helper()
	if !slices.EqualFunc(got, want, wire.Same) || (got == nil) != (len(want) == 0) {
		t.Fatalf("%s: told\n%+v, not\n%+v", what, got, want)
	}
	for _, m := range got {
		if len(m.Lasts) <= 2000 && wire.Check(m) != api.OK {
			t.Fatalf("%s: told what may not be: %+v", what, m)
		}
	}
	spoil(got)
}

// spoil changes all that may be changed of messages, and what lies behind their lists.
func spoil(l []api.Msg) {
	for i, m := range l {
		for j := range m.Items[:cap(m.Items)] {
			m.Items[:cap(m.Items)][j] = item(99, 99)
		}
		for j := range m.Lasts[:cap(m.Lasts)] {
			m.Lasts[:cap(m.Lasts)][j] = api.Last{Ident: 99, Id: 99}
		}
		for j := range m.State.Lists {
			m.State.Lists[j] = api.List{Id: 99, Name: "spoilt"}
		}
		for j, x := range m.State.Tasks {
			for k := range x.Tags {
				x.Tags[k] = "spoilt"
			}
			m.State.Tasks[j] = api.Task{Id: 99, List: 99, Title: "spoilt"}
		}
		l[i] = api.Msg{Kind: 99, Line: 99, Boot: 99}
	}
}

// room is m in memory of its own, with something behind its lists that would be seen.
func room(m api.Msg) api.Msg {
	m.Items = behind(m.Items, item(66, 1))[:len(m.Items)]
	m.Lasts = behind(m.Lasts, api.Last{Ident: 66, Id: 1})[:len(m.Lasts)]
	return m
}

// handedIn is all of a message, and of what lies behind its lists.
func handedIn(m api.Msg) string {
	return fmt.Sprintf("%+v; %+v; %+v", m, m.Items[:cap(m.Items)], m.Lasts[:cap(m.Lasts)])
}

// both are a disk, a Server on it, and what it must be.
type both struct {
	d *disk.Disk
	s *server.Server
	p plain
}

// begun are those of a new disk.
func begun(t *testing.T, sectors int) *both {
	t.Helper()
	d := disk.New(sectors)
	return &both{d: d, s: mustOpen(t, "new", d, plain{})}
}

// laid are those of a disk with what is told of p.
func laid(t *testing.T, sectors int, p plain) *both {
	t.Helper()
	d := written(t, sectors, p.puts()...)
	return &both{d: d, s: mustOpen(t, "laid", d, p), p: p}
}

// written is a disk with a store that has this.
func written(t *testing.T, sectors int, l ...api.Put) *disk.Disk {
	t.Helper()
	d := disk.New(sectors)
	mustBe(t, "store.Format", store.Format(d), api.OK)
	s, e := store.Open(d)
	mustBe(t, "store.Open", e, api.OK)
	mustBe(t, "store.Commit", s.Commit(l...), api.OK)
	return d
}

// do hands messages in, and asks for what is told, what there is then, and what is committed: one record with just what is new, or nothing at all.
func (b *both) do(t *testing.T, what string, l ...api.Msg) {
	t.Helper()
	for _, m := range l {
		what := fmt.Sprintf("%s, %+v", what, m)
		after, puts, want := b.p.do(m)
		m = room(m)
		was := handedIn(m)
		records := b.commits(t, what, puts, func() { mustTell(t, what, b.s.Do(m), want) })
		if is := handedIn(m); is != was {
			t.Fatalf("%s: handed in was %s, and is %s", what, was, is)
		}
		spoil([]api.Msg{m})
		b.p = after
		b.holds(t, what, records, puts)
	}
}

// compact does so, and asks likewise.
func (b *both) compact(t *testing.T, keep uint64) {
	t.Helper()
	what := fmt.Sprintf("Compact(%d)", keep)
	after, puts := b.p.compact(keep)
	records := b.commits(t, what, puts, func() { mustBe(t, what, b.s.Compact(keep), api.OK) })
	b.p = after
	b.holds(t, what, records, puts)
}

// commits makes the call, of which nothing may be written, if nothing is to be committed; it tells how many records there were.
func (b *both) commits(t *testing.T, what string, puts []api.Put, call func()) int {
	t.Helper()
	records := b.records(t)
	if len(puts) == 0 {
		b.d.Arm(0)
	}
	call()
	if b.d.Dead() {
		t.Fatalf("%s: something is written", what)
	}
	b.d.Arm(-1)
	return len(records)
}

// holds asks for what there is behind a call.
func (b *both) holds(t *testing.T, what string, records int, puts []api.Put) {
	t.Helper()
	mustSee(t, what, b.s, b.p)
	mustKeep(t, what, b.d, b.p)
	l := b.records(t)
	if len(puts) == 0 {
		if len(l) != records {
			t.Fatalf("%s: %d records, not %d", what, len(l), records)
		}
		return
	}
	if len(l) != records+1 {
		t.Fatalf("%s: %d records, not %d", what, len(l), records+1)
	}
	all, got, e := store.Of(l[records])
	if got, want := spelt(got), spelt(puts); all || e != api.OK || got != want {
		t.Fatalf("%s: committed is\n%s, not\n%s", what, got, want)
	}
}

func (b *both) records(t *testing.T) [][]byte {
	t.Helper()
	_, l, e := wal.Open(b.d)
	mustBe(t, "wal.Open", e, api.OK)
	return l
}

// open opens the disk again, and asks that all is there.
func (b *both) open(t *testing.T) {
	t.Helper()
	b.s = mustOpen(t, "again", b.d, b.p)
}

// kill makes the disk Dead.
func kill(t *testing.T, d *disk.Disk) {
	t.Helper()
	d.Arm(0)
	d.Flush()
	if !d.Dead() {
		t.Fatal("not Dead")
	}
}

// choices are all choices of what a crash keeps of n writes; of many, some.
func choices(n int) [][]bool {
	l := [][]bool{nil, slices.Repeat([]bool{true}, n+2)}
	for set := range 1 << min(n, 4) {
		keep := make([]bool, n)
		for i := range keep {
			keep[i] = set>>(i%4)&1 == 1
		}
		l = append(l, keep)
	}
	return l
}

// random tells numbers below n, the same ones each time.
func random(seed uint64) func(n int) int {
	return func(n int) int {
		seed = seed*6364136223846793005 + 1442695040888963407
		return int(seed>>33) % n
	}
}

// oneOf is one of l.
func oneOf[T any](r func(n int) int, l ...T) T { return l[r(len(l))] }
