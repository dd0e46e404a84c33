package clog_test

import (
	"math"
	"slices"
	"strings"
	"testing"

	"factotum/api"
	"factotum/clog"
	"factotum/fold"
)

// anyItem goes well often on anyState, and has an error else.
func anyItem(r func(n int) int) api.Item {
	ids := []uint64{1, 2, 3, 4, 5}
	m := api.Mut{Kind: oneOf(r, []int{api.MutList, api.MutMake, api.MutMake, api.MutEdit, api.MutTag, api.MutDrop, api.MutDelete, api.MutSpread, 14})}
	switch m.Kind {
	case api.MutList, api.MutEdit:
		m.Id, m.Text = oneOf(r, ids), oneOf(r, []string{"a", "b", "c", "\n"})
	case api.MutMake:
		m.Id, m.List, m.Text, m.F = oneOf(r, ids), oneOf(r, ids[:3]), "t", float64(r(5))
	case api.MutTag:
		m.Id, m.Text = oneOf(r, ids), oneOf(r, []string{"a", "b", "c", "d", "e"})
	case api.MutDrop, api.MutDelete:
		m.Id = oneOf(r, ids)
	case api.MutSpread:
		m.List = oneOf(r, ids[:3])
	}
	return api.Item{Ident: uint64(r(3)), Id: uint64(r(9)), Mut: m}
}

func anyItems(r func(n int) int, most int) []api.Item {
	var l []api.Item
	for range r(most + 1) {
		l = append(l, anyItem(r))
	}
	return l
}

// anyState is Right often, and out of order or wrong else.
func anyState(r func(n int) int) api.State {
	s := oneOf(r, []api.State{{}, small()})
	for range r(4) {
		s.Lists = append(s.Lists, api.List{Id: uint64(1 + r(3)), Name: oneOf(r, []string{"a", "b"})})
	}
	for range r(4) {
		s.Tasks = append(s.Tasks, api.Task{Id: uint64(1 + r(5)), List: uint64(1 + r(3)), Title: "t", Rank: float64(r(3)), Tags: []string{"b", "a"}[:r(3)]})
	}
	return s
}

// anyBase may be too great.
func anyBase(r func(n int) int) uint64 {
	return oneOf(r, append(bases(), mostGone+1, 1<<63, greatest))
}

// P17.3: what is told behind a Compact to each number is what was told ahead of it.
func TestUnseen(t *testing.T) {
	r := random(1)
	for range 60 {
		base, s, l := anyBase(r), anyState(r), anyItems(r, 10)
		whole := clog.New(base, s, l...)
		base = whole.Base()
		for to := base; to <= whole.Version(); to++ {
			x := clog.New(base, s, l...)
			mustCompact(t, "unseen", x, to, true)
			mustEnd(t, "unseen", x, to, whole.Version())
			for v := base; v <= whole.Version(); v++ {
				state, is := whole.At(v)
				if v < to {
					state, is = api.State{}, false
				}
				mustAt(t, "unseen", x, v, told(state), is)
				for _, most := range mosts(len(l)) {
					items, is := whole.Items(v, most)
					if v < to {
						items, is = nil, false
					}
					mustItems(t, "unseen", x, v, most, items, is)
				}
			}
		}
	}
}

// P17.3: it is not seen whether a log was compacted ahead of what is added, either.
func TestUnseenLater(t *testing.T) {
	r := random(2)
	for range 150 {
		base, s, l, m := anyBase(r), anyState(r), anyItems(r, 10), anyItems(r, 10)
		x := clog.New(base, s, l...)
		p := begun(min(base, mostGone), s, l...)
		to := p.first + uint64(r(len(l)+1))
		mustCompact(t, "ahead", x, to, true)
		x.Add(m...)
		mustHold(t, "later", x, p.with(m...).from(to))
	}
}

// P17.1: the state behind all is what fold.All tells, and a Log that begins there goes on alike.
func TestGoneItems(t *testing.T) {
	r := random(3)
	for range 150 {
		s, l, m := anyState(r), anyItems(r, 12), anyItems(r, 12)
		there, _ := fold.All(s, l...)
		end, _ := fold.All(there, m...)
		x, y := clog.New(0, s, slices.Concat(l, m)...), clog.New(uint64(len(l)), there, m...)
		for _, z := range []*clog.Log{x, y} {
			mustAt(t, "amid", z, uint64(len(l)), told(there), true)
			mustAt(t, "the end", z, uint64(len(l)+len(m)), told(end), true)
		}
		mustCompact(t, "to where the other begins", x, y.Base(), true)
		mustHold(t, "the one", x, begun(uint64(len(l)), there, m...))
		mustHold(t, "the other", y, begun(uint64(len(l)), there, m...))
	}
}

// P17.1 to P17.3: Logs and their Copies to which things are done in any order, each held against a plain list.
func TestManyLogs(t *testing.T) {
	r := random(4)
	done, refused := 0, 0
	for range 80 {
		base, s, l := anyBase(r), anyState(r), anyItems(r, 5)
		logs, plains := []*clog.Log{clog.New(base, s, l...)}, []plain{begun(min(base, mostGone), s, l...)}
		for range 25 {
			i := r(len(logs))
			x, p := logs[i], &plains[i]
			switch r(4) {
			case 0, 1:
				l := roomyItems(anyItems(r, 4))
				x.Add(l...)
				*p = p.with(l...)
				spoilItems(l)
			case 2:
				// Mostly near Base, so that it isn't at its end at once.
				to := p.base + uint64(r(4)) - 1
				mustCompact(t, "any order", x, to, p.tells(to))
				if p.tells(to) {
					*p = p.from(to)
					done++
				} else {
					refused++
				}
			default:
				if len(logs) < 5 {
					logs, plains = append(logs, x.Copy()), append(plains, *p)
				}
			}
		}
		for i, x := range logs {
			mustHold(t, "any order", x, plains[i])
		}
	}
	if done < 100 || refused < 50 {
		t.Errorf("%d Compacts that hold, %d that don't", done, refused)
	}
}

// P3: the same arguments, the same answers, however often; a nil list is an empty one.
func TestTheSameAnswers(t *testing.T) {
	r := random(5)
	for range 60 {
		base, s, l := anyBase(r), anyState(r), anyItems(r, 8)
		p := begun(min(base, mostGone), s, l...)
		for i, x := range s.Tasks {
			if len(x.Tags) == 0 {
				s.Tasks[i].Tags = nil
			}
		}
		for range 3 {
			mustHold(t, "again", clog.New(base, s, l...), p)
		}
	}
}

// P1: no call panics, whatever is handed in, in whatever order.
func TestAnyArguments(t *testing.T) {
	r := random(6)
	long := strings.Repeat("\xff", 100)
	numbers := append(bases(), mostGone+1, 1<<62, 1<<63-1, 1<<63, greatest-1, greatest)
	states := []api.State{
		{}, small(), {Lists: make([]api.List, 30), Tasks: make([]api.Task, 90)}, {Tasks: make([]api.Task, 1)},
		{Lists: []api.List{{Id: greatest, Name: long}}, Tasks: []api.Task{{Id: greatest, List: greatest, Title: long, Tags: []string{long, "", long}}, {}}},
	}
	for range 400 {
		var l []api.Item
		for range r(6) {
			m := api.Mut{Kind: r(16) - 1, Id: oneOf(r, numbers), List: oneOf(r, numbers), Text: oneOf(r, []string{"", "a", long}), F: oneOf(r, []float64{0, math.NaN(), math.Inf(1)}), Flag: r(2) == 0}
			l = append(l, api.Item{Ident: oneOf(r, numbers), Id: oneOf(r, numbers), Mut: m})
		}
		x := clog.New(oneOf(r, numbers), oneOf(r, states), l...)
		for range 20 {
			v := oneOf(r, append(numbers, x.Base(), x.Base()+1, x.Version(), x.Version()+1, x.Base()-1))
			x.At(v)
			x.Items(v, oneOf(r, mosts(r(5))))
			x.Compact(v)
			x.Add(l[:r(len(l)+1)]...)
			x = oneOf(r, []*clog.Log{x, x.Copy()})
		}
	}
}
