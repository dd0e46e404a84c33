package wire_test

import (
	"fmt"
	"math"
	"slices"
	"testing"

	"factotum/api"
	"factotum/wire"
)

// P15.1: each Kind with all that it names, and with as little as may be; nil and empty lists are the same.
func TestCheckOfKinds(t *testing.T) {
	for _, kind := range kinds() {
		for _, m := range []api.Msg{full(kind), bare(kind)} {
			pass(t, "as named", m)
			m.Boot = greatest
			pass(t, "a great Boot", m)
			e := emptied(m)
			if wire.Check(e) != api.OK || !wire.Same(e, m) {
				t.Fatalf("Kind %d with empty lists for nil ones", kind)
			}
			b, _ := wire.Put(e)
			mustBytes(t, "empty lists for nil ones", b, framed(body(m)))
		}
	}
}

// emptied is m with empty lists for nil ones.
func emptied(m api.Msg) api.Msg {
	m.Items = append([]api.Item{}, m.Items...)
	m.Lasts = append([]api.Last{}, m.Lasts...)
	m.State.Lists = append([]api.List{}, m.State.Lists...)
	m.State.Tasks = append([]api.Task{}, m.State.Tasks...)
	for i, x := range m.State.Tasks {
		m.State.Tasks[i].Tags = append([]string{}, x.Tags...)
	}
	return m
}

// P15.1: a Kind that is none of the eight, whatever else there is.
func TestCheckOfNoKind(t *testing.T) {
	others := []int{math.MinInt, -1 << 32, -256, -255, -248, -9, -8, -3, -1, 0, 9, 10, 16, 127, 128, 129, 255, 256, 257, 260, 264, 1<<16 + 1, 1<<32 + 3, math.MaxInt, math.MinInt + 4}
	for _, kind := range others {
		for _, like := range append(kinds(), 0) {
			m := full(like)
			m.Kind = kind
			refuse(t, "no Kind", m)
			m = bare(like)
			m.Kind = kind
			refuse(t, "no Kind", m)
		}
	}
}

// P15.1: a Boot of 0 for each Kind.
func TestCheckOfBoots(t *testing.T) {
	for _, kind := range kinds() {
		for _, m := range []api.Msg{full(kind), bare(kind)} {
			for _, boot := range []uint64{1, 127, 128, 1 << 40, 1 << 63, greatest} {
				m.Boot = boot
				pass(t, "a Boot", m)
			}
			m.Boot = 0
			refuse(t, "no Boot", m)
		}
	}
	refuse(t, "nothing at all", api.Msg{})
}

// thing is something that a message may name, and what it may be.
type thing struct {
	name  string
	kinds []int
	put   []func(m *api.Msg)
}

// things are those that go by themselves: News has To only as From and its Items ask for it.
func things() []thing {
	number := func(at func(m *api.Msg) *uint64) []func(m *api.Msg) {
		var l []func(m *api.Msg)
		for _, n := range []uint64{1, 2, 3, 5, 127, 128, 255, 256, 1 << 32, 1 << 63, greatest} {
			l = append(l, func(m *api.Msg) { *at(m) = n })
		}
		return l
	}
	return []thing{
		{"Line", []int{api.Hello, api.Welcome, api.Fenced, api.Push, api.Pull}, number(func(m *api.Msg) *uint64 { return &m.Line })},
		{"From", []int{api.Pull}, number(func(m *api.Msg) *uint64 { return &m.From })},
		{"To", []int{api.Snap}, number(func(m *api.Msg) *uint64 { return &m.To })},
		{"Items", []int{api.Push}, []func(m *api.Msg){
			func(m *api.Msg) { m.Items = plain(1) },
			func(m *api.Msg) { m.Items = plain(8) },
		}},
		{"Lasts", []int{api.Ack, api.Snap}, []func(m *api.Msg){
			func(m *api.Msg) { m.Lasts = lasts(1) },
			func(m *api.Msg) { m.Lasts = lasts(50) },
		}},
		{"State", []int{api.Snap}, []func(m *api.Msg){
			func(m *api.Msg) { m.State = small() },
			func(m *api.Msg) { m.State = api.State{Lists: []api.List{{Id: 1, Name: "l"}}} },
			func(m *api.Msg) { m.State = api.State{Lists: small().Lists, Tasks: small().Tasks[1:2]} },
		}},
	}
}

// P15.1: each Kind with each thing, one at a time: what it names may be so, what it doesn't name may not be there.
func TestCheckOfWhatIsNamed(t *testing.T) {
	for _, kind := range kinds() {
		for _, x := range things() {
			for i, put := range x.put {
				for _, m := range []api.Msg{full(kind), bare(kind)} {
					put(&m)
					what := fmt.Sprintf("Kind %d with %s, %d", kind, x.name, i)
					if slices.Contains(x.kinds, kind) || kind == api.News && goes(m.From, m.To, len(m.Items)) && (x.name == "From" || x.name == "To") {
						pass(t, what, m)
					} else {
						refuse(t, what, m)
					}
				}
			}
		}
	}
	// A task alone is no Right state, but isn't nothing either.
	for _, kind := range kinds() {
		m := full(kind)
		m.State = api.State{Tasks: small().Tasks[:1]}
		refuse(t, "a task without its list", m)
	}
}

// P15.1: a Push, and a News, of no items, one, some, 8 and more.
func TestCheckOfHowManyItems(t *testing.T) {
	for _, n := range []int{0, 1, 2, 5, 7, 8, 9, 10, 16, 255, 256, 257, 264, 600} {
		push := api.Msg{Kind: api.Push, Line: 7, Boot: 9, Items: plain(n)}
		news := api.Msg{Kind: api.News, Boot: 9, From: 100, To: 100 + uint64(n), Items: plain(n)}
		if n > 8 {
			refuse(t, "too many items", push)
			refuse(t, "too many items", news)
			continue
		}
		pass(t, "items", news)
		if n > 0 {
			pass(t, "items", push)
		} else {
			refuse(t, "no items", push)
		}
	}
	same := plain(1)[0]
	pass(t, "the same item often", api.Msg{Kind: api.Push, Boot: 9, Items: []api.Item{same, same, same}})
	pass(t, "items of any order", api.Msg{Kind: api.News, Boot: 9, To: 3, Items: []api.Item{item(9, 9, same.Mut), item(3, 4, same.Mut), item(9, 2, same.Mut)}})
}

// wrongItems may not be in a message.
func wrongItems() []api.Item {
	right := plain(1)[0]
	l := []api.Item{{}, {Ident: 0, Id: 4, Mut: right.Mut}, {Ident: 4, Id: 0, Mut: right.Mut}, {Mut: right.Mut}, {Ident: 4, Id: 4}}
	for _, m := range []api.Mut{
		{Kind: -1, Id: 1}, {Kind: 14, Id: 1}, {Id: 1}, {Kind: api.MutDrop}, {Kind: api.MutClear}, {Kind: api.MutDelete}, {Kind: api.MutDelete, Id: 1, List: 1},
		{Kind: api.MutList, Id: 1}, {Kind: api.MutList, Id: 1, Text: "\n"}, {Kind: api.MutList, Id: 1, Text: fmt.Sprintf("%061d", 1)}, {Kind: api.MutTag, Id: 1, Text: "A"},
		{Kind: api.MutDone, Id: 1, F: 1}, {Kind: api.MutDrop, Id: 1, Flag: true}, {Kind: api.MutRank, Id: 1, F: theNaN}, {Kind: api.MutRank, Id: 1, F: minusZero}, {Kind: api.MutEst, Id: 1, F: otherNaN},
	} {
		l = append(l, item(5, 6, m))
	}
	return l
}

// P15.1: an item that may not be, first, amid, last, and alone.
func TestCheckOfItems(t *testing.T) {
	for _, n := range []int{1, 3, 8} {
		for at := range n {
			for _, x := range wrongItems() {
				l := plain(n)
				l[at] = x
				refuse(t, "a wrong item", api.Msg{Kind: api.Push, Line: 7, Boot: 9, Items: l})
				refuse(t, "a wrong item", api.Msg{Kind: api.News, Boot: 9, To: uint64(n), Items: l})
			}
			for _, m := range muts() {
				l := plain(n)
				l[at] = item(greatest, 1<<63, m)
				pass(t, "a mutation", api.Msg{Kind: api.Push, Line: 7, Boot: 9, Items: l})
				pass(t, "a mutation", api.Msg{Kind: api.News, Boot: 9, To: uint64(n), Items: l})
			}
		}
	}
}

// of is an Ack, and a Snap, of these Lasts.
func of(l []api.Last) []api.Msg {
	return []api.Msg{{Kind: api.Ack, Boot: 9, Lasts: l}, {Kind: api.Snap, Boot: 9, To: 8, Lasts: l}, {Kind: api.Snap, Boot: 9, State: small(), Lasts: l}}
}

// P15.1: no Lasts, one, some, 2000 and more.
func TestCheckOfHowManyLasts(t *testing.T) {
	for _, n := range []int{0, 1, 2, 8, 9, 60, 61, 127, 128, 1999, all, all + 1, all + 2, 4095, 65536 + 1} {
		for _, m := range of(lasts(n)) {
			switch {
			case n > all:
				refuse(t, "too many Lasts", m)
			case n == 0 && m.Kind == api.Ack:
				refuse(t, "no Lasts", m)
			default:
				pass(t, "Lasts", m)
			}
		}
	}
}

// P15.1: Idents that don't rise from 1 on, first, amid and last; Ids of 0.
func TestCheckOfLasts(t *testing.T) {
	for _, l := range [][]api.Last{
		{{Ident: 1, Id: 1}}, {{Ident: greatest, Id: greatest}}, {{Ident: 1, Id: 9}, {Ident: 2, Id: 3}}, {{Ident: 1, Id: 3}, {Ident: greatest - 1, Id: 3}, {Ident: greatest, Id: 1}},
		{{Ident: 3, Id: 1}, {Ident: 1 << 62, Id: 1}, {Ident: 1 << 63, Id: 1}, {Ident: 1<<63 + 1, Id: 1}},
	} {
		for _, m := range of(l) {
			pass(t, "rising", m)
		}
	}
	for _, l := range [][]api.Last{
		{{}}, {{Ident: 1}}, {{Id: 1}}, {{}, {}}, {{Ident: 0, Id: 1}, {Ident: 1, Id: 1}}, {{Ident: 4, Id: 1}, {Ident: 4, Id: 1}}, {{Ident: 4, Id: 1}, {Ident: 4, Id: 2}}, {{Ident: 4, Id: 1}, {Ident: 3, Id: 2}},
		{{Ident: 1 << 63, Id: 1}, {Ident: 1, Id: 1}}, {{Ident: greatest, Id: 1}, {Ident: 1, Id: 1}}, {{Ident: greatest, Id: 1}, {Ident: greatest, Id: 1}}, {{Ident: greatest, Id: 1}, {Ident: 0, Id: 1}},
	} {
		for _, m := range of(l) {
			refuse(t, "not rising", m)
		}
	}
	for _, n := range []int{1, 2, 5, 300, all} {
		for _, at := range []int{0, 1, n / 2, n - 2, n - 1} {
			if at >= 0 && at < n {
				wrongAt(t, n, at)
			}
		}
	}
}

// wrongAt asks that one of n Lasts may not be wrong.
func wrongAt(t *testing.T, n, at int) {
	t.Helper()
	wrong := []api.Last{{Ident: uint64(at + 1)}, {Id: 1}, {}}
	if at > 0 {
		wrong = append(wrong, api.Last{Ident: uint64(at), Id: 1}, api.Last{Ident: 1, Id: 1})
	}
	if at < n-1 {
		wrong = append(wrong, api.Last{Ident: uint64(at + 2), Id: 1}, api.Last{Ident: uint64(n), Id: 1}, api.Last{Ident: greatest, Id: 1})
	}
	for _, x := range wrong {
		l := lasts(n)
		l[at] = x
		for _, m := range of(l) {
			refuse(t, fmt.Sprintf("%v at %d of %d", x, at, n), m)
		}
	}
}

// P15.1: a Snap with and without Lasts, with a State that is Right and with one that isn't.
func TestCheckOfStates(t *testing.T) {
	for _, l := range [][]api.Last{nil, lasts(1), lasts(all)} {
		for _, to := range []uint64{0, 1, greatest} {
			m := api.Msg{Kind: api.Snap, Boot: 9, To: to, Lasts: l}
			pass(t, "nothing", m)
			m.State = small()
			pass(t, "a state", m)
			m.State = api.State{Lists: small().Lists}
			pass(t, "lists alone", m)
			for _, s := range wrongStates() {
				m.State = s
				refuse(t, "a wrong state", m)
			}
		}
	}
}

// wrongStates are ones that aren't Right.
func wrongStates() []api.State {
	var l []api.State
	for _, change := range []func(s *api.State){
		func(s *api.State) { s.Lists[0].Id = 0 },
		func(s *api.State) { s.Lists[1].Id = 2 },
		func(s *api.State) { slices.Reverse(s.Lists) },
		func(s *api.State) { s.Lists[1].Name = "" },
		func(s *api.State) { s.Lists = nil },
		func(s *api.State) { s.Tasks[0].Id = 0 },
		func(s *api.State) { s.Tasks[1].Id = 3 },
		func(s *api.State) { slices.Reverse(s.Tasks) },
		func(s *api.State) { s.Tasks[2].List = 3 },
		func(s *api.State) { s.Tasks[2].Title = "\x7f" },
		func(s *api.State) { s.Tasks[0].Rank = theNaN },
		func(s *api.State) { s.Tasks[2].Rank = minusZero },
		func(s *api.State) { s.Tasks[0].Est = otherNaN },
		func(s *api.State) { s.Tasks[0].Tags = []string{"b", "b"} },
		func(s *api.State) { s.Tasks[0].Tags = []string{"a", "b", "c", "d", "e"} },
		func(s *api.State) { s.Tasks[2].Tags = []string{""} },
		func(s *api.State) {
			for i := range 19 {
				s.Lists = append(s.Lists, api.List{Id: uint64(1000 + i), Name: "l"})
			}
		},
	} {
		s := small()
		change(&s)
		l = append(l, s)
	}
	return l
}

// P15.1: of News From + how many Items there are is To, without going round.
func TestCheckOfNews(t *testing.T) {
	froms := []uint64{0, 1, 3, 120, 127, 128, 255, 1<<32 - 1, 1<<63 - 1, 1 << 63}
	for i := range uint64(12) {
		froms = append(froms, greatest-i)
	}
	for n := range 9 {
		for _, from := range froms {
			for off := -10; off <= 10; off++ {
				m := api.Msg{Kind: api.News, Boot: 9, From: from, To: from + uint64(n+off), Items: plain(n)}
				if off == 0 && m.To >= from {
					pass(t, "From and To fit", m)
				} else {
					refuse(t, "From and To don't fit", m)
				}
			}
			m := api.Msg{Kind: api.News, Boot: 9, From: from, To: from + uint64(n) + 1<<32, Items: plain(n)}
			refuse(t, "To far above From", m)
			m.To = from + uint64(n) + 1<<63
			refuse(t, "To far from From", m)
			if n > 0 {
				m.From, m.To = uint64(n), 0
				refuse(t, "From and To turned round", m)
				m.From = from
				refuse(t, "no To", m)
			}
		}
	}
}

// P15.1: the first example.
func TestExample(t *testing.T) {
	refuse(t, "a Hello without a Boot", api.Msg{Kind: api.Hello, Line: 1})
	pass(t, "with one", api.Msg{Kind: api.Hello, Line: 1, Boot: 1})
}
