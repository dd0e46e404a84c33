package rank_test

import (
	"math"
	"slices"
	"testing"

	"factotum/api"
	"factotum/rank"
	"factotum/task"
)

// P10.3, P3: where there are no tasks of the list, Spread is Canon.
func TestSpreadOfNothing(t *testing.T) {
	for _, list := range []uint64{0, 1, 5, 10, greatest} {
		mustSpread(t, "nothing", api.State{}, list, api.State{})
		mustSpread(t, "empty lists", api.State{Lists: []api.List{}, Tasks: []api.Task{}}, list, api.State{})
		mustSpread(t, "lists alone", api.State{Lists: mixed().Lists}, list, api.State{Lists: mixed().Lists})
		mustSpread(t, "mixed", mixed(), list, mixed())
		mustSpread(t, "mixed", roomy(mixed()), list, mixed())
	}
	for _, list := range []uint64{0, 1, 5, 77} {
		mustSpread(t, "jumbled", jumbled(), list, task.Canon(jumbled()))
		mustSpread(t, "jumbled", roomy(jumbled()), list, task.Canon(jumbled()))
	}
}

// numbered is a copy of s whose tasks at these places have the Ranks 1, 2, 3, ..
func numbered(s api.State, places ...int) api.State {
	s.Tasks = slices.Clone(s.Tasks)
	for i, place := range places {
		s.Tasks[place].Rank = float64(i + 1)
	}
	return s
}

// P10.3: what stands in the document, written out; nothing but the Ranks of the list is changed.
func TestSpread(t *testing.T) {
	for list, places := range map[uint64][]int{2: {3, 6, 1, 4}, 9: {2, 5, 0}} {
		want := numbered(mixed(), places...)
		mustSpread(t, "mixed", mixed(), list, want)
		mustSpread(t, "mixed", roomy(mixed()), list, want)
		mustSpread(t, "spread already", want, list, want)
		turned := mixed()
		slices.Reverse(turned.Lists)
		slices.Reverse(turned.Tasks)
		mustSpread(t, "turned round", turned, list, want)
	}
	both := numbered(numbered(mixed(), 3, 6, 1, 4), 2, 5, 0)
	mustSpread(t, "one list behind the other", rank.Spread(mixed(), 9), 2, both)
	mustSpread(t, "one list behind the other", rank.Spread(mixed(), 2), 9, both)
}

// P10.3: one task, and tasks whose Ranks are alike, of every kind.
func TestSpreadOfAlikeRanks(t *testing.T) {
	for _, f := range ranks() {
		mustSpread(t, "one", ranked(f), 2, ranked(1))
		mustSpread(t, "two", ranked(f, f), 2, ranked(1, 2))
		mustSpread(t, "four", ranked(f, f, f, f), 2, ranked(1, 2, 3, 4))
	}
	mustSpread(t, "noughts", ranked(0, minusZero, 0, minusZero), 2, ranked(1, 2, 3, 4))
	mustSpread(t, "NaNs", ranked(otherNaN, theNaN, otherNaN), 2, ranked(1, 2, 3))
	mustSpread(t, "next to each other", ranked(next(1), 1, next(next(1)), 1), 2, ranked(3, 1, 4, 2))
	mustSpread(t, "far", ranked(inf, most, theNaN, -inf, -most, 0), 2, ranked(6, 5, 1, 2, 3, 4))
}

// P10.3: a state that isn't Right: what Canon drops has no Rank, and the others have no gap.
func TestSpreadOfJumbledState(t *testing.T) {
	was := task.Canon(jumbled())
	for list, places := range map[uint64][]int{2: {0, 2, 1, 3, 7}, 9: {5}, 4: {4, 6}} {
		mustSpread(t, "jumbled", jumbled(), list, numbered(was, places...))
		mustSpread(t, "jumbled", roomy(jumbled()), list, numbered(was, places...))
	}
	want := api.State{
		Lists: []api.List{{Id: 0, Name: "nought"}, {Id: 2, Name: ""}, {Id: 9, Name: "second"}},
		Tasks: []api.Task{
			{Id: 0, List: 2, Title: "no Id", Rank: 1},
			{Id: 1, List: 2, Title: "at a nought, too", Rank: 3},
			{Id: 2, List: 2, Title: "no number", Rank: 2},
			{Id: 3, List: 2, Title: "at a nought", Rank: 4},
			{Id: 4, List: 4, Title: "of no list, too", Rank: 6},
			{Id: 5, List: 9, Title: "of another list", Rank: theNaN, Tags: []string{"x"}},
			{Id: 6, List: 4, Title: "of no list", Rank: 7},
			{Id: 8, List: 2, Title: "", Rank: 5, Est: theNaN, Tags: []string{"a", "b"}},
		},
	}
	mustSpread(t, "jumbled, written out", jumbled(), 2, want)
}

// mustHaveRoom asks that Between tells a number at every place of a list, and that a task with it stands there.
func mustHaveRoom(t *testing.T, s api.State, list uint64) {
	t.Helper()
	after := uint64(0)
	for _, x := range append(ordered(s, list), api.Task{}) {
		f, e := rank.Between(s, list, after)
		if e != api.OK {
			t.Fatalf("behind a Spread: Between of list %d, after %d: %d\n%s", list, after, e, told(s))
		}
		mustStandBehind(t, s, list, after, f)
		after = x.Id
	}
}

// P10.3, P10.4: many states: Ranks 1, 2, 3, .. in the Order that was, all else as Canon tells it, and room at every place.
func TestSpreadOfMany(t *testing.T) {
	r := random(3)
	for i := range 300 {
		s := randomState(r, 60, i%3 == 2, ranks())
		for _, list := range []uint64{2, 5, 9, 3} {
			got := rank.Spread(s, list)
			want := task.Canon(s)
			for place, x := range ordered(want, list) {
				want.Tasks[slices.IndexFunc(want.Tasks, func(y api.Task) bool { return y.Id == x.Id })].Rank = float64(place + 1)
			}
			mustSpread(t, "many", s, list, want)
			mustKeepOrder(t, task.Canon(s), got, list)
			if i%3 != 2 {
				mustKeepOrder(t, s, got, list)
				for _, other := range []uint64{2, 5, 9} {
					if other != list {
						mustOrder(t, "another list", got, other, ordered(task.Canon(s), other))
					}
				}
			}
			if list != 3 && i%20 == 0 {
				mustHaveRoom(t, got, list)
			}
		}
	}
}

// mustKeepOrder asks that Order tells the same tasks in the same order behind a Spread, with the Ranks 1, 2, 3, ..
func mustKeepOrder(t *testing.T, s, spread api.State, list uint64) {
	t.Helper()
	was, is := rank.Order(s, list), rank.Order(spread, list)
	if len(was) != len(is) {
		t.Fatalf("Order of list %d tells %d tasks, and %d behind a Spread", list, len(was), len(is))
	}
	for i := range is {
		if is[i].Id != was[i].Id || is[i].Title != was[i].Title || is[i].Rank != float64(i+1) {
			t.Fatalf("Order of list %d has at %d\n%s, and behind a Spread\n%s", list, i, toldTask(was[i]), toldTask(is[i]))
		}
	}
}

// P10.4: lists of every length up to that of a Right state, of which there was no room in.
func TestSpreadMakesRoom(t *testing.T) {
	for n := range 61 {
		for _, f := range []float64{0, minusZero, inf, -inf, most, -most, 1, theNaN} {
			var l []float64
			for range n {
				l = append(l, f)
			}
			s := rank.Spread(ranked(l...), 2)
			after := uint64(0)
			for i := range n + 1 {
				f, e := rank.Between(s, 2, after)
				if e != api.OK || n > 0 && (i > 0 && f <= float64(i) || i < n && f >= float64(i+1)) {
					t.Fatal("a list of", n, "tasks, place", i, ":", f, e)
				}
				after += 10
			}
		}
	}
}

// P10.3, P10.4: more tasks than a Right state has.
func TestSpreadOfVeryMany(t *testing.T) {
	s := api.State{Lists: []api.List{{Id: 1, Name: "l"}}}
	for i := range 5000 {
		s.Tasks = append(s.Tasks, api.Task{Id: uint64(5000 - i), List: 1, Rank: math.Mod(float64(i*7), 5000)})
	}
	got := rank.Spread(s, 1)
	for i, x := range got.Tasks {
		if x.Id != uint64(i+1) || x.Rank != 1+math.Mod(float64((4999-i)*7), 5000) {
			t.Fatal("very many: at", i, "there is", toldTask(x))
		}
	}
	for _, after := range []uint64{0, 1, 5000, 4999, 2500} {
		if f, e := rank.Between(got, 1, after); e != api.OK {
			t.Fatal("very many: after", after, ":", f, e)
		}
	}
}

// P2: what Spread tells shares nothing with what was handed in, nor with another answer, nor one of its lists with another.
func TestSpreadIsNotShared(t *testing.T) {
	shared := []string{"b", "a", "c"}
	for _, list := range []uint64{2, 5, 9, 3} {
		s := roomy(mixed())
		s.Tasks[1].Tags, s.Tasks[2].Tags = shared[:2], shared[:3]
		was := told(wide(s))
		a, b := rank.Spread(s, list), rank.Spread(s, list)
		want := told(a)
		for i := range a.Tasks {
			_ = append(a.Tasks[i].Tags, "more")
			_ = append(b.Tasks[i].Tags, "more")
		}
		if told(a) != want || told(b) != want {
			t.Fatal("one list of an answer shares memory with another")
		}
		spoil(b)
		if told(wide(s)) != was || told(a) != want {
			t.Fatal("an answer shares memory with what was handed in, or with another answer")
		}
		spoil(s)
		if told(a) != want {
			t.Fatal("what is told hangs on what was handed in")
		}
	}
}
