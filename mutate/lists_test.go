package mutate_test

import (
	"slices"
	"strings"
	"testing"

	"factotum/api"
	"factotum/rank"
)

// P11.2: a list put in where there is nothing, and ahead of all, amid and behind all.
func TestList(t *testing.T) {
	m := api.Mut{Kind: api.MutList, Id: 4, Text: "new"}
	mustApply(t, "into nothing", api.State{}, m, api.State{Lists: []api.List{{Id: 4, Name: "new"}}})
	mustApply(t, "into empty lists", api.State{Lists: []api.List{}, Tasks: []api.Task{}}, m, api.State{Lists: []api.List{{Id: 4, Name: "new"}}})
	mustApply(t, "behind one", one(), m, api.State{Lists: []api.List{{Id: 2, Name: "l"}, {Id: 4, Name: "new"}}, Tasks: one().Tasks})
	m.Id = 3
	mustApply(t, "with a task's Id", one(), m, api.State{Lists: []api.List{{Id: 2, Name: "l"}, {Id: 3, Name: "new"}}, Tasks: one().Tasks})
	m.Text = "l"
	mustApply(t, "with the Name of another", one(), m, api.State{Lists: []api.List{{Id: 2, Name: "l"}, {Id: 3, Name: "l"}}, Tasks: one().Tasks})
	for id, at := range map[uint64]int{1: 0, 3: 1, 4: 1, 6: 2, 8: 2, 10: 3, 300: 3, greatest: 3} {
		for _, text := range []string{"~", "food", strings.Repeat("n", mostTitle)} {
			want := mixed()
			want.Lists = slices.Insert(want.Lists, at, api.List{Id: id, Name: text})
			mustApply(t, "into many", mixed(), api.Mut{Kind: api.MutList, Id: id, Text: text}, want)
		}
	}
}

// P11.2: MutList of a list that is there, of one too many, and of both.
func TestListRefused(t *testing.T) {
	for _, id := range []uint64{2, 5, 9} {
		for _, text := range []string{"new", "food", "none", "work"} {
			mustRefuse(t, "there", mixed(), api.Mut{Kind: api.MutList, Id: id, Text: text}, api.ErrThere)
		}
	}
	for n := range mostLists + 1 {
		s := filled(n, min(n, 1), 0)
		for _, id := range []uint64{1, 15, 195, 201, greatest} {
			m := api.Mut{Kind: api.MutList, Id: id, Text: "new"}
			if n == mostLists {
				mustRefuse(t, "one too many", s, m, api.ErrMany)
				continue
			}
			want := api.State{Lists: slices.Clone(s.Lists), Tasks: s.Tasks}
			at := min(n, map[uint64]int{1: 0, 15: 1, 195: 19, 201: 20, greatest: 20}[id])
			want.Lists = slices.Insert(want.Lists, at, api.List{Id: id, Name: "new"})
			mustApply(t, "one more", s, m, want)
		}
		for _, l := range s.Lists {
			mustRefuse(t, "there, however many", s, api.Mut{Kind: api.MutList, Id: l.Id, Text: "l"}, api.ErrThere)
		}
	}
	mustApply(t, "60 tasks don't count", filled(1, mostTasks, 0), api.Mut{Kind: api.MutList, Id: 20, Text: "l"}, filled(2, mostTasks, 0))
}

// P11.2: MutDrop of the first list, one amid without tasks, the last one, the only one, one after the other.
func TestDrop(t *testing.T) {
	for id, want := range map[uint64]api.State{
		2: without([]uint64{2}, []uint64{4, 7, 8, greatest}), 5: without([]uint64{5}, nil), 9: without([]uint64{9}, []uint64{3, 6, 300}),
	} {
		mustApply(t, "one of many", mixed(), api.Mut{Kind: api.MutDrop, Id: id}, want)
	}
	mustApply(t, "the only one", one(), api.Mut{Kind: api.MutDrop, Id: 2}, api.State{})
	mustApply(t, "the only one, without tasks", filled(1, 0, 0), api.Mut{Kind: api.MutDrop, Id: 10}, api.State{})
	mustApply(t, "with all tasks that there are", filled(2, mostTasks, 4), api.Mut{Kind: api.MutDrop, Id: 10}, api.State{Lists: []api.List{{Id: 20, Name: "l"}}})
	mustApply(t, "with no task", filled(2, mostTasks, 4), api.Mut{Kind: api.MutDrop, Id: 20}, filled(1, mostTasks, 4))
	mustApply(t, "of 20", filled(mostLists, 0, 0), api.Mut{Kind: api.MutDrop, Id: 200}, filled(mostLists-1, 0, 0))
	mustApply(t, "what is left", without([]uint64{2}, []uint64{4, 7, 8, greatest}), api.Mut{Kind: api.MutDrop, Id: 9}, without([]uint64{2, 9}, []uint64{3, 4, 6, 7, 8, 300, greatest}))
}

// P11.2: MutClear where some tasks of the list are Done, all, or none, and where it has none.
func TestClear(t *testing.T) {
	for list, want := range map[uint64]api.State{2: without(nil, []uint64{4, 8}), 5: mixed(), 9: without(nil, []uint64{6})} {
		mustApply(t, "some", mixed(), api.Mut{Kind: api.MutClear, List: list}, want)
		mustApply(t, "none any more", want, api.Mut{Kind: api.MutClear, List: list}, want)
	}
	mustApply(t, "none", one(), api.Mut{Kind: api.MutClear, List: 2}, one())
	done := func(x *api.Task) { x.Done = true }
	mustApply(t, "the only one", but(one(), 3, done), api.Mut{Kind: api.MutClear, List: 2}, api.State{Lists: one().Lists})
	mustApply(t, "without tasks", filled(3, 0, 0), api.Mut{Kind: api.MutClear, List: 20}, filled(3, 0, 0))
	all := mixed()
	for _, x := range mixed().Tasks {
		all = but(all, x.Id, done)
	}
	mustApply(t, "first and last and amid", all, api.Mut{Kind: api.MutClear, List: 2}, api.State{Lists: all.Lists, Tasks: []api.Task{all.Tasks[0], all.Tasks[2], all.Tasks[5]}})
	mustApply(t, "first and amid", all, api.Mut{Kind: api.MutClear, List: 9}, api.State{Lists: all.Lists, Tasks: []api.Task{all.Tasks[1], all.Tasks[3], all.Tasks[4], all.Tasks[6]}})
	s := filled(2, mostTasks, 1)
	var left []api.Task
	for i := 0; i < mostTasks; i += 2 {
		left = append(left, s.Tasks[i])
	}
	mustApply(t, "every other one of 60", s, api.Mut{Kind: api.MutClear, List: 10}, api.State{Lists: s.Lists, Tasks: left})
	mustApply(t, "60 of another list", s, api.Mut{Kind: api.MutClear, List: 20}, s)
}

// P11.2: MutSpread, written out, and as rank.Spread tells it.
func TestSpread(t *testing.T) {
	ranked := func(l map[uint64]float64) api.State {
		s := mixed()
		for id, f := range l {
			s = but(s, id, func(x *api.Task) { x.Rank = f })
		}
		return s
	}
	for list, want := range map[uint64]api.State{
		2: ranked(map[uint64]float64{7: 1, greatest: 2, 4: 3, 8: 4}), 5: mixed(), 9: ranked(map[uint64]float64{6: 1, 300: 2, 3: 3}),
	} {
		mustApply(t, "by hand", mixed(), api.Mut{Kind: api.MutSpread, List: list}, want)
		mustApply(t, "spread already", want, api.Mut{Kind: api.MutSpread, List: list}, want)
	}
	mustApply(t, "one task", one(), api.Mut{Kind: api.MutSpread, List: 2}, but(one(), 3, func(x *api.Task) { x.Rank = 1 }))
	mustApply(t, "no task", filled(2, 0, 0), api.Mut{Kind: api.MutSpread, List: 20}, filled(2, 0, 0))
	for n := range mostTasks + 1 {
		s := filled(2, n, n%5)
		for _, list := range []uint64{10, 20} {
			mustApply(t, "as rank tells", s, api.Mut{Kind: api.MutSpread, List: list}, rank.Spread(s, list))
		}
	}
}

// P11.2: a list that isn't there: of nothing, of a task's Id, beside one that is.
func TestNoList(t *testing.T) {
	for _, s := range []api.State{{}, one(), mixed(), filled(mostLists, mostTasks, mostTags)} {
		for _, id := range []uint64{1, 3, 4, 6, 7, 8, 11, 199, 300, greatest} {
			mustRefuse(t, "no such list", s, api.Mut{Kind: api.MutDrop, Id: id}, api.ErrList)
			mustRefuse(t, "no such list", s, api.Mut{Kind: api.MutClear, List: id}, api.ErrList)
			mustRefuse(t, "no such list", s, api.Mut{Kind: api.MutSpread, List: id}, api.ErrList)
		}
	}
	// What lies behind the lists' lengths isn't there.
	for _, m := range []api.Mut{{Kind: api.MutDrop, Id: 77}, {Kind: api.MutClear, List: 77}, {Kind: api.MutSpread, List: 77}} {
		mustRefuse(t, "a list behind", mixed(), m, api.ErrList)
	}
}
