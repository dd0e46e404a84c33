package rank_test

import (
	"slices"
	"testing"

	"factotum/api"
	"factotum/rank"
)

// P10.1, P3: where there are no tasks of the list.
func TestOrderOfNothing(t *testing.T) {
	for what, s := range map[string]api.State{
		"nothing":     {},
		"empty lists": {Lists: []api.List{}, Tasks: []api.Task{}},
		"no tasks":    {Lists: []api.List{{Id: 2, Name: "l"}, {Id: 5, Name: "m"}}},
		"mixed":       {Lists: mixed().Lists, Tasks: mixed().Tasks[:1]},
		"jumbled":     {Lists: jumbled().Lists, Tasks: jumbled().Tasks[4:5]},
	} {
		for _, list := range []uint64{0, 1, 2, 3, 5, 10, greatest} {
			mustOrder(t, what, s, list, nil)
			mustOrder(t, what, roomy(s), list, nil)
		}
	}
}

// P10.1: what stands in the document, written out.
func TestOrder(t *testing.T) {
	s := mixed()
	for list, places := range map[uint64][]int{2: {3, 6, 1, 4}, 5: nil, 9: {2, 5, 0}, 0: nil, 7: nil} {
		var want []api.Task
		for _, i := range places {
			want = append(want, s.Tasks[i])
		}
		mustOrder(t, "mixed", s, list, want)
		mustOrder(t, "mixed", roomy(s), list, want)
	}
	one := api.State{Tasks: mixed().Tasks[:1]}
	mustOrder(t, "one task, no list", one, 9, one.Tasks)
}

// P10.1: a state that isn't Right: each task of the list as it stands there.
func TestOrderOfJumbledState(t *testing.T) {
	s := jumbled()
	for list, places := range map[uint64][]int{2: {5, 7, 2, 3, 1, 8, 0, 9}, 9: {6}, 4: {10, 4}, 0: nil} {
		var want []api.Task
		for _, i := range places {
			want = append(want, s.Tasks[i])
		}
		mustOrder(t, "jumbled", s, list, want)
		mustOrder(t, "jumbled", roomy(s), list, want)
	}
}

// P10.1: Ranks of all kinds, two by two, in either order of Ids and in either order of the state.
func TestOrderOfTwo(t *testing.T) {
	for _, f := range ranks() {
		for _, g := range ranks() {
			s := ranked(f, g)
			want := s.Tasks
			if less(g, f) {
				want = []api.Task{s.Tasks[1], s.Tasks[0]}
			}
			mustOrder(t, "two", s, 2, want)
			want = slices.Clone(want)
			slices.Reverse(s.Tasks)
			mustOrder(t, "two, turned round", s, 2, want)
		}
	}
}

// orders calls with l in every order.
func orders[T any](l []T, done int, call func([]T)) {
	if done == len(l) {
		call(l)
		return
	}
	for i := done; i < len(l); i++ {
		l[done], l[i] = l[i], l[done]
		orders(l, done+1, call)
		l[done], l[i] = l[i], l[done]
	}
}

// P10.1: tasks in every order in the state, and Ranks in every order of the Ids.
func TestOrderOfEveryOrder(t *testing.T) {
	for _, l := range [][]float64{
		{theNaN, -inf, -least, 0, least}, {1, next(1), 2, most, inf}, {1, 1, 1, 1, 1}, {0, minusZero, 0, minusZero, -1}, {theNaN, otherNaN, theNaN, inf, inf},
	} {
		orders(l, 0, func(l []float64) {
			s := ranked(l...)
			mustOrder(t, "every order", s, 2, ordered(s, 2))
		})
		s := ranked(l...)
		want := ordered(s, 2)
		orders(s.Tasks, 0, func([]api.Task) { mustOrder(t, "every order of the state", s, 2, want) })
	}
}

// P10.1: of one Rank the least Id is first, however far the Ids are from each other.
func TestOrderOfGreatIds(t *testing.T) {
	s := ranked(1, 1, 1, 1, 1)
	for i, id := range []uint64{1, 1<<63 - 1, 1 << 63, 1<<63 + 1, greatest} {
		s.Tasks[i].Id = id
	}
	want := slices.Clone(s.Tasks)
	orders(s.Tasks, 0, func([]api.Task) { mustOrder(t, "great Ids", s, 2, want) })
	for i, x := range want {
		mustBeAt(t, "great Ids", s, x.Id, i)
	}
}

// P10.1: many states, held against the chapter's words; At tells each task's place there.
func TestOrderOfMany(t *testing.T) {
	r := random(1)
	for i := range 500 {
		s := randomState(r, 60, i%2 == 1, ranks())
		count := 0
		for _, list := range []uint64{2, 5, 9} {
			want := ordered(s, list)
			mustOrder(t, "many", s, list, want)
			count += len(want)
			for at, x := range want {
				if i%2 == 0 {
					mustBeAt(t, "many", s, x.Id, at)
				}
			}
		}
		if count != len(s.Tasks) {
			t.Fatal("the tests' own Orders are short")
		}
		mustOrder(t, "many", s, 3, nil)
		mustBeAt(t, "many", s, 61, -1)
	}
}

// P10.1: more tasks than a Right state has.
func TestOrderOfVeryMany(t *testing.T) {
	var s api.State
	for i := range 5000 {
		s.Tasks = append(s.Tasks, api.Task{Id: uint64(i * 7 % 5000), List: uint64(i*7%5000) % 2, Rank: float64(i * 7 % 5000 / 8)})
	}
	for list := range uint64(2) {
		l := rank.Order(s, list)
		if len(l) != 2500 {
			t.Fatal("Order of list", list, "tells", len(l))
		}
		for i, x := range l {
			if x.Id != uint64(2*i)+list {
				t.Fatal("Order of list", list, "has", x.Id, "at", i)
			}
		}
	}
	for _, id := range []uint64{0, 1, 2, 2501, 4998, 4999} {
		mustBeAt(t, "very many", s, id, int(id/2))
	}
}

// P10.1: At of what is there, and of what isn't.
func TestAt(t *testing.T) {
	for _, s := range []api.State{mixed(), roomy(mixed())} {
		for id, want := range map[uint64]int{
			7: 0, greatest: 1, 4: 2, 8: 3, 6: 0, 300: 1, 3: 2,
			0: -1, 1: -1, 2: -1, 5: -1, 9: -1, 78: -1, 299: -1, greatest - 1: -1,
		} {
			mustBeAt(t, "mixed", s, id, want)
		}
	}
	for _, id := range []uint64{0, 1, 2, greatest} {
		mustBeAt(t, "nothing", api.State{}, id, -1)
		mustBeAt(t, "lists alone", api.State{Lists: mixed().Lists}, id, -1)
	}
}

// P10.1: of several tasks of one Id the first in the state tells the list, and the first in the list's Order the place.
func TestAtOfOneIdOftener(t *testing.T) {
	s := jumbled()
	for id, want := range map[uint64]int{8: 2, 3: 4, 1: 3, 6: 1, 0: 0, 5: 0, 2: 1, 4: 0, 7: -1, 9: -1} {
		mustBeAt(t, "jumbled", s, id, want)
		mustBeAt(t, "jumbled", roomy(s), id, want)
	}
	slices.Reverse(s.Tasks)
	for id, want := range map[uint64]int{8: 2, 3: 4, 1: 3, 6: 1, 0: 0, 5: 5, 2: 1, 4: 0} {
		mustBeAt(t, "jumbled, turned round", s, id, want)
	}
}

// P2: what Order tells shares nothing with what was handed in, nor with another answer, nor one of its lists with another.
func TestOrderIsNotShared(t *testing.T) {
	for _, s := range []api.State{roomy(mixed()), roomy(jumbled())} {
		shared := []string{"b", "a", "c"}
		for i := range s.Tasks[:3] {
			s.Tasks[i].Tags, s.Tasks[i].List = shared[:i+1], 2
		}
		was := told(wide(s))
		l, other := rank.Order(s, 2), rank.Order(s, 2)
		want := toldTasks(l)
		for i := range other {
			_ = append(other[i].Tags, "more")
			_ = append(l[i].Tags, "more")
		}
		if toldTasks(l) != want || toldTasks(other) != want {
			t.Fatal("one list of an answer shares memory with another")
		}
		other[0].Tags = append(other[0].Tags, "more")
		for i := range other[1:] {
			spoilTasks(other[i+1 : i+2 : i+2])
		}
		spoilTasks(other)
		if told(wide(s)) != was || toldTasks(l) != want {
			t.Fatal("an answer shares memory with what was handed in, or with another answer")
		}
		spoil(s)
		if toldTasks(l) != want {
			t.Fatal("what is told hangs on what was handed in")
		}
	}
}
