package clog_test

import (
	"fmt"
	"math"
	"slices"
	"strings"
	"testing"

	"factotum/api"
	"factotum/clog"
	"factotum/fold"
)

const (
	greatest = math.MaxUint64
	mostGone = 1 << 40
)

// plain is what a Log is held against: the state behind the first items, all items behind those, and Base.
type plain struct {
	first uint64
	state api.State
	items []api.Item
	base  uint64
}

// begun is the plain of a Log that is new.
func begun(first uint64, s api.State, l ...api.Item) plain {
	return plain{first: first, state: s, items: slices.Clone(l), base: first}
}

// with is p with items behind its end.
func (p plain) with(l ...api.Item) plain {
	p.items = slices.Concat(p.items, l)
	return p
}

// from is p behind a Compact.
func (p plain) from(base uint64) plain {
	p.base = base
	return p
}

func (p plain) version() uint64 { return p.first + uint64(len(p.items)) }

func (p plain) tells(v uint64) bool { return p.base <= v && v <= p.version() }

// cut are the items from a number on, at most so many.
func (p plain) cut(from uint64, most int) []api.Item {
	var l []api.Item
	for i, x := range p.items {
		if p.first+uint64(i) >= from && len(l) < most {
			l = append(l, x)
		}
	}
	return l
}

// states are those behind the first, second, .. of its items, as fold tells them; ahead of all at 0.
func (p plain) states() []string {
	var l []string
	for _, s := range fold.Each(p.state, p.items...) {
		l = append(l, told(s))
	}
	return l
}

// numbers are those from Base to Version (of many some), those beside them, and others that would be among them in fewer bits.
func (p plain) numbers() []uint64 {
	v := p.version()
	l := []uint64{0, 1, p.first - 1, p.first, p.first + 1, -p.base, -v, greatest - 1, greatest, p.base + (v-p.base)/2}
	for i := range uint64(12) {
		l = append(l, p.base-3+i, v-6+i)
	}
	for _, bit := range []uint{8, 16, 31, 32, 40, 62, 63} {
		n := uint64(1) << bit
		l = append(l, n, p.base+n, v+n, v-n)
	}
	slices.Sort(l)
	return slices.Compact(l)
}

// mosts are as many as there are, one more, one less, and others.
func mosts(n int) []int {
	l := []int{math.MinInt, math.MinInt + 1, -1<<32 + n, -n, -1, 0, 1, 2, n - 1, n, n + 1, 1<<16 + 1, 1<<31 - 1, 1 << 31, 1 << 32, 1<<32 + 1, math.MaxInt - 1, math.MaxInt}
	slices.Sort(l)
	return slices.Compact(l)
}

// told is all of a state.
func told(s api.State) string { return fmt.Sprintf("%+v", s) }

// alike: the same items, their floats by their bits.
func alike(a, b api.Item) bool {
	same := math.Float64bits(a.Mut.F) == math.Float64bits(b.Mut.F)
	a.Mut.F, b.Mut.F = 0, 0
	return same && a == b
}

// mustEnd asks for Base and Version.
func mustEnd(t *testing.T, what string, l *clog.Log, base, version uint64) {
	t.Helper()
	if l.Base() != base || l.Version() != version {
		t.Fatalf("%s: from %d to %d, not from %d to %d", what, l.Base(), l.Version(), base, version)
	}
}

// mustAt asks for this state, or that there is none, and spoils what is told.
func mustAt(t *testing.T, what string, l *clog.Log, v uint64, want string, is bool) {
	t.Helper()
	got, ok := l.At(v)
	if ok != is || told(got) != want {
		t.Fatalf("%s: At(%d) is %t,\n%s, not %t,\n%s", what, v, ok, told(got), is, want)
	}
	spoilState(got)
}

// mustItems asks for these items, with nothing behind them, in an answer that shares nothing with another one, and spoils what is told.
func mustItems(t *testing.T, what string, l *clog.Log, from uint64, most int, want []api.Item, is bool) {
	t.Helper()
	first, ok := l.Items(from, most)
	second, _ := l.Items(from, most)
	for _, got := range [][]api.Item{first, second} {
		if ok != is || !slices.EqualFunc(got, want, alike) {
			t.Fatalf("%s: Items(%d, %d) is %t,\n%+v, not %t,\n%+v", what, from, most, ok, got, is, want)
		}
		for _, x := range got[len(got):cap(got)] {
			if !alike(x, api.Item{}) {
				t.Fatalf("%s: behind Items(%d, %d) lies %+v", what, from, most, x)
			}
		}
		spoilItems(got[:cap(got)])
	}
}

// mustHold asks all that l tells, and twice over, as what it told is spoilt.
func mustHold(t *testing.T, what string, l *clog.Log, p plain) {
	t.Helper()
	states := p.states()
	for range 2 {
		mustEnd(t, what, l, p.base, p.version())
		for _, v := range p.numbers() {
			if !p.tells(v) {
				mustTellNothing(t, what, l, v)
				continue
			}
			mustAt(t, what, l, v, states[v-p.first], true)
			for _, most := range mosts(int(p.version() - v)) {
				mustItems(t, what, l, v, most, p.cut(v, most), true)
			}
		}
	}
	mustEnd(t, what, l, p.base, p.version())
}

// mustTellNothing asks that l has neither a state nor items of this number.
func mustTellNothing(t *testing.T, what string, l *clog.Log, v uint64) {
	t.Helper()
	mustAt(t, what, l, v, told(api.State{}), false)
	for _, most := range mosts(3) {
		mustItems(t, what, l, v, most, nil, false)
	}
}

func mustCompact(t *testing.T, what string, l *clog.Log, to uint64, want bool) {
	t.Helper()
	if is := l.Compact(to); is != want {
		t.Fatalf("%s: Compact(%d) is %t", what, to, is)
	}
}

// spoilState changes all that a caller may change of s.
func spoilState(s api.State) {
	for i := range s.Lists {
		s.Lists[i] = api.List{Id: 99, Name: "spoilt"}
	}
	for i, x := range s.Tasks {
		for j := range x.Tags {
			x.Tags[j] = "spoilt"
		}
		s.Tasks[i] = api.Task{Id: 99, List: 99, Title: "spoilt", Done: true, Rank: 99, Est: 99}
	}
}

func spoilItems(l []api.Item) {
	for i := range l {
		l[i] = api.Item{Ident: 99, Id: 99, Mut: api.Mut{Kind: api.MutList, Id: 99, Text: "spoilt"}}
	}
}

// behind is l in memory of its own, with x behind it.
func behind[T any](l []T, x T) []T {
	n := len(l)
	return append(append(make([]T, 0, n+1), l...), x)[:n]
}

// roomyState is s in memory of its own, with something behind each of its lists.
func roomyState(s api.State) api.State {
	r := api.State{Lists: behind(s.Lists, api.List{Id: 77, Name: "behind"}), Tasks: behind(s.Tasks, api.Task{Id: 78, List: 2, Title: "behind"})}
	for i, x := range r.Tasks {
		r.Tasks[i].Tags = behind(x.Tags, "z")
	}
	return r
}

// roomyItems are l in memory of their own, with an item behind them that would be seen.
func roomyItems(l []api.Item) []api.Item { return behind(l, addList(77, 77)) }

// handedIn is all of what is handed in, and of what lies behind its lists.
func handedIn(s api.State, l []api.Item) string {
	b := []string{fmt.Sprintf("%+v; %+v; ", s.Lists[:cap(s.Lists)], l[:cap(l)])}
	for _, x := range s.Tasks[:cap(s.Tasks)] {
		b = append(b, fmt.Sprintf("%+v, %q", x, x.Tags[:cap(x.Tags)]))
	}
	return strings.Join(b, "; ")
}

// Items, each with a number of its own.
func item(id uint64, m api.Mut) api.Item { return api.Item{Ident: 5, Id: id, Mut: m} }

func addList(id, list uint64) api.Item {
	return item(id, api.Mut{Kind: api.MutList, Id: list, Text: "l"})
}

func edit(id, x uint64, title string) api.Item {
	return item(id, api.Mut{Kind: api.MutEdit, Id: x, Text: title})
}

// lists are n items, each of which makes a list that is there from then on, but for those above 20.
func lists(n int) []api.Item {
	var l []api.Item
	for i := range uint64(n) {
		l = append(l, addList(i+1, 100+i))
	}
	return l
}

// small is a Right state.
func small() api.State {
	return api.State{
		Lists: []api.List{{Id: 2, Name: "food"}},
		Tasks: []api.Task{
			{Id: 3, List: 2, Title: "eat", Rank: 1, Est: 4, Tags: []string{"b", "d"}},
			{Id: 7, List: 2, Title: "drink", Done: true, Rank: -2, Est: 2},
		},
	}
}

// changed is small with something changed in its task 3.
func changed(change func(x *api.Task)) api.State {
	s := small()
	change(&s.Tasks[0])
	return s
}

// some are items on small, two of them with an error, and the states ahead of the first one and behind each.
func some() ([]api.Item, []api.State) {
	l := []api.Item{
		edit(1, 3, "cook"), edit(2, 4, "nobody"), item(1, api.Mut{Kind: api.MutTag, Id: 3, Text: "c"}), {Ident: 6, Id: 7},
		item(9, api.Mut{Kind: api.MutDrop, Id: 2}), addList(3, 9),
	}
	a := changed(func(x *api.Task) { x.Title = "cook" })
	b := changed(func(x *api.Task) { x.Title, x.Tags = "cook", []string{"b", "c", "d"} })
	return l, []api.State{small(), a, a, b, b, {}, {Lists: []api.List{{Id: 9, Name: "l"}}}}
}

// bases are those that New takes as they are.
func bases() []uint64 {
	return []uint64{0, 1, 2, 5, 255, 1 << 16, 1<<31 - 1, 1 << 31, 1 << 32, 1<<32 + 1, 1<<39 + 1, mostGone - 1, mostGone}
}

// random tells numbers below n, the same ones each time.
func random(seed uint64) func(n int) int {
	return func(n int) int {
		seed = seed*6364136223846793005 + 1442695040888963407
		return int(seed>>33) % n
	}
}

// oneOf is one of l.
func oneOf[T any](r func(n int) int, l []T) T { return l[r(len(l))] }
