package fold_test

import (
	"slices"
	"strings"
	"testing"

	"factotum/api"
	"factotum/fold"
)

// Example 1 of the chapter.
func TestExample(t *testing.T) {
	one := api.State{Lists: []api.List{{Id: 1, Name: "l"}}}
	twice := []api.Item{addList(1, "l"), addList(1, "l")}
	mustFold(t, "the example", api.State{}, twice, []api.State{{}, one, one}, []api.Errno{api.OK, api.ErrThere})
	mustFold(t, "other Names", api.State{}, []api.Item{addList(1, "l"), addList(1, "m")}, []api.State{{}, one, one}, []api.Errno{api.OK, api.ErrThere})
}

// P14.1: no items leave a Right state as it is.
func TestNoItems(t *testing.T) {
	for _, l := range [][]api.Item{nil, {}} {
		mustFold(t, "nothing", api.State{}, l, []api.State{{}}, nil)
		mustFold(t, "nothing, empty", api.State{Lists: []api.List{}, Tasks: []api.Task{}}, l, []api.State{{}}, nil)
		mustFold(t, "a Right state", small(), l, []api.State{small()}, nil)
	}
}

// P14.1: one item that goes well, one that doesn't.
func TestOneItem(t *testing.T) {
	edited := with(func(x *api.Task) { x.Title = "cook" })
	mustFold(t, "one", small(), []api.Item{edit(3, "cook")}, []api.State{small(), edited}, []api.Errno{api.OK})
	mustFold(t, "one that has an error", small(), []api.Item{edit(4, "cook")}, []api.State{small(), small()}, []api.Errno{api.ErrTask})
}

// P14.1: several items, in their order, each on what the one ahead made.
func TestSeveralItems(t *testing.T) {
	l := []api.Item{addList(9, "work"), addTask(5, 9, "write", 2), addTag(5, "x"), estimate(5, 0.5), edit(5, "read"), drop(2), drop(9)}
	states := []api.State{small()}
	next := func(change func(s *api.State)) {
		s := states[len(states)-1]
		s.Lists, s.Tasks = slices.Clone(s.Lists), slices.Clone(s.Tasks)
		change(&s)
		states = append(states, s)
	}
	next(func(s *api.State) { s.Lists = append(s.Lists, api.List{Id: 9, Name: "work"}) })
	next(func(s *api.State) {
		s.Tasks = slices.Insert(s.Tasks, 1, api.Task{Id: 5, List: 9, Title: "write", Rank: 2, Est: theNaN})
	})
	next(func(s *api.State) { s.Tasks[1].Tags = []string{"x"} })
	next(func(s *api.State) { s.Tasks[1].Est = 0.5 })
	next(func(s *api.State) { s.Tasks[1].Title = "read" })
	next(func(s *api.State) { s.Lists, s.Tasks = s.Lists[1:], s.Tasks[1:2] })
	next(func(s *api.State) { *s = api.State{} })
	mustFold(t, "several", small(), l, states, make([]api.Errno, 7))
}

// P14.1: the order of items tells which goes well.
func TestOrderOfItems(t *testing.T) {
	a := with(func(x *api.Task) { x.Title = "a" })
	b := with(func(x *api.Task) { x.Title = "b" })
	fine := make([]api.Errno, 2)
	mustFold(t, "a, b", small(), []api.Item{edit(3, "a"), edit(3, "b")}, []api.State{small(), a, b}, fine)
	mustFold(t, "b, a", small(), []api.Item{edit(3, "b"), edit(3, "a")}, []api.State{small(), b, a}, fine)
	list := api.State{Lists: []api.List{{Id: 1, Name: "l"}}}
	mustFold(t, "gone ahead of there", api.State{}, []api.Item{drop(1), addList(1, "l")}, []api.State{{}, {}, list}, []api.Errno{api.ErrList, api.OK})
	mustFold(t, "there ahead of gone", api.State{}, []api.Item{addList(1, "l"), drop(1)}, []api.State{{}, list, {}}, fine)
}

// P14.1: an item that has an error changes nothing, wherever it stands, and those behind it are done.
func TestItemsWithErrors(t *testing.T) {
	s, x := small(), with(func(x *api.Task) { x.Est = 1 })
	y := with(func(x *api.Task) { x.Est, x.Tags = 1, []string{"b", "c", "d"} })
	bad := addList(2, "there")
	no := api.ErrThere
	mustFold(t, "first", s, []api.Item{bad, estimate(3, 1), addTag(3, "c")}, []api.State{s, s, x, y}, []api.Errno{no, api.OK, api.OK})
	mustFold(t, "amid", s, []api.Item{estimate(3, 1), bad, addTag(3, "c")}, []api.State{s, x, x, y}, []api.Errno{api.OK, no, api.OK})
	mustFold(t, "last", s, []api.Item{estimate(3, 1), addTag(3, "c"), bad}, []api.State{s, x, y, y}, []api.Errno{api.OK, api.OK, no})
	mustFold(t, "all", s, []api.Item{bad, bad, bad}, []api.State{s, s, s, s}, []api.Errno{no, no, no})
	mustFold(t, "several in a row", s, []api.Item{bad, bad, estimate(3, 1), bad, bad}, []api.State{s, s, s, x, x, x}, []api.Errno{no, no, api.OK, no, no})
}

// P14.1: each error in its place, all that mutate tells.
func TestEachError(t *testing.T) {
	s := small()
	l := []api.Item{
		{}, do(api.Mut{Kind: 14}), drop(3), addList(2, "x"), edit(2, "x"), edit(3, ""), addTag(3, "A"), addTag(3, "b"),
		do(api.Mut{Kind: api.MutUntag, Id: 3, Text: "a"}), do(api.Mut{Kind: api.MutRank, Id: 3, F: theNaN}), addTask(3, 2, "x", 0),
		addTask(4, 3, "x", 0), estimate(3, minusZero), addTag(3, "x"), addTag(3, "y"), addTag(3, "z"),
	}
	errs := []api.Errno{
		api.ErrMut, api.ErrMut, api.ErrList, api.ErrThere, api.ErrTask, api.ErrText, api.ErrText, api.ErrThere,
		api.ErrNone, api.ErrRank, api.ErrThere, api.ErrList, api.ErrMut, api.OK, api.OK, api.ErrMany,
	}
	three := with(func(x *api.Task) { x.Tags = []string{"b", "d", "x"} })
	four := with(func(x *api.Task) { x.Tags = []string{"b", "d", "x", "y"} })
	mustFold(t, "errors", s, l, append(slices.Repeat([]api.State{s}, 14), three, four, four), errs)
}

// P14.1: as many lists and tasks as there may be, and then ErrMany until one is gone.
func TestUntilThereAreTooMany(t *testing.T) {
	s := api.State{}
	states, errs := []api.State{s}, []api.Errno(nil)
	var l []api.Item
	next := func(x api.Item, e api.Errno) {
		l, states, errs = append(l, x), append(states, s), append(errs, e)
	}
	for i := range uint64(20) {
		s.Lists = append(s.Lists[:i:i], api.List{Id: i + 1, Name: "l"})
		next(addList(i+1, "l"), api.OK)
	}
	next(addList(21, "l"), api.ErrMany)
	for i := range uint64(60) {
		s.Tasks = append(s.Tasks[:i:i], api.Task{Id: i + 1, List: 20, Title: "t", Rank: 1, Est: theNaN})
		next(addTask(i+1, 20, "t", 1), api.OK)
	}
	next(addTask(61, 20, "t", 1), api.ErrMany)
	next(addList(21, "l"), api.ErrMany)
	s.Lists = s.Lists[1:]
	next(drop(1), api.OK)
	s.Lists = append(s.Lists[:19:19], api.List{Id: 21, Name: "l"})
	next(addList(21, "l"), api.OK)
	next(addTask(61, 20, "t", 1), api.ErrMany)
	s.Lists, s.Tasks = append(slices.Clone(s.Lists[:18]), s.Lists[19]), nil
	next(drop(20), api.OK)
	next(addTask(61, 20, "t", 1), api.ErrList)
	mustFold(t, "too many", api.State{}, l, states, errs)
}

// outOfOrder are states that aren't Right, while their Canon is, with it.
func outOfOrder() [][2]api.State {
	lists := []api.List{{Id: 2, Name: "two"}, {Id: 5, Name: "five"}}
	tasks := []api.Task{{Id: 3, List: 2, Title: "a", Rank: 1, Est: 1}, {Id: 4, List: 5, Title: "b", Rank: 2, Est: 2}}
	turned := func(l []api.Task) []api.Task { return []api.Task{l[1], l[0]} }
	one := func(change func(x *api.Task)) api.State {
		x := tasks[0]
		change(&x)
		return api.State{Lists: lists, Tasks: []api.Task{x}}
	}
	var many api.State
	for i := range uint64(20) {
		many.Lists = append(many.Lists, api.List{Id: i + 1, Name: "l"})
	}
	for i := range uint64(60) {
		many.Tasks = append(many.Tasks, api.Task{Id: i + 1, List: 1, Title: "t"})
	}
	more := api.State{Lists: append(slices.Clone(many.Lists), api.List{Id: 20, Name: "m"}), Tasks: append(slices.Clone(many.Tasks), api.Task{Id: 60, List: 99})}
	return [][2]api.State{
		{{Lists: []api.List{lists[1], lists[0]}, Tasks: tasks}, {Lists: lists, Tasks: tasks}},
		{{Lists: lists, Tasks: turned(tasks)}, {Lists: lists, Tasks: tasks}},
		{{Lists: []api.List{lists[0], {Id: 2, Name: ""}}, Tasks: tasks[:1]}, {Lists: lists[:1], Tasks: tasks[:1]}},
		{{Lists: lists, Tasks: append(turned(tasks), api.Task{Id: 3, List: 77, Title: "\n"})}, {Lists: lists, Tasks: tasks}},
		{one(func(x *api.Task) { x.Tags = []string{"c", "a", "c", "a", "a"} }), one(func(x *api.Task) { x.Tags = []string{"a", "c"} })},
		{one(func(x *api.Task) { x.Rank = minusZero }), one(func(x *api.Task) { x.Rank = 0 })},
		{one(func(x *api.Task) { x.Est = minusZero }), one(func(x *api.Task) { x.Est = 0 })},
		{one(func(x *api.Task) { x.Est = otherNaN }), one(func(x *api.Task) { x.Est = theNaN })},
		{more, many},
	}
}

// P14.1: a state that isn't in order is told in order, and gone on from.
func TestStatesOutOfOrder(t *testing.T) {
	for _, x := range outOfOrder() {
		mustFold(t, "no items", x[0], nil, []api.State{x[1]}, nil)
		mustFold(t, "an item that has an error", x[0], []api.Item{drop(88)}, []api.State{x[1], x[1]}, []api.Errno{api.ErrList})
		edited := x[1]
		edited.Tasks = slices.Clone(edited.Tasks)
		edited.Tasks[0].Title = "edited"
		id := edited.Tasks[0].Id
		mustFold(t, "items", x[0], []api.Item{edit(id, "edited"), edit(88, "no")}, []api.State{x[1], edited, edited}, []api.Errno{api.OK, api.ErrTask})
	}
}

// wrong are states whose Canon isn't Right.
func wrong() []api.State {
	manyLists, manyTasks := small(), small()
	for i := range uint64(20) {
		manyLists.Lists = append(manyLists.Lists, api.List{Id: 10 + i, Name: "l"})
	}
	for i := range uint64(59) {
		manyTasks.Tasks = append(manyTasks.Tasks, api.Task{Id: 10 + i, List: 2, Title: "t"})
	}
	l := []api.State{
		manyLists, manyTasks,
		{Lists: []api.List{{Id: 0, Name: "nought"}}}, {Lists: []api.List{{Id: 2}}}, {Lists: []api.List{{Id: 2, Name: "\n"}}},
		{Tasks: []api.Task{{Id: 3, List: 2, Title: "a"}}},
		{Lists: []api.List{{Id: 3, Name: ""}, {Id: 3, Name: "the second of this Id"}}},
	}
	for _, change := range []func(x *api.Task){
		func(x *api.Task) { x.Id = 0 }, func(x *api.Task) { x.List = 0 }, func(x *api.Task) { x.List = 3 },
		func(x *api.Task) { x.Title = "" }, func(x *api.Task) { x.Title = strings.Repeat("a", 61) },
		func(x *api.Task) { x.Rank = theNaN }, func(x *api.Task) { x.Rank = otherNaN },
		func(x *api.Task) { x.Tags = []string{""} }, func(x *api.Task) { x.Tags = []string{"A"} },
		func(x *api.Task) { x.Tags = []string{"a", "b", "c", "d", "e"} },
	} {
		l = append(l, with(change))
	}
	return l
}

// P14.1: a state that isn't Right counts as one of no lists and tasks, and the items are done to that.
func TestWrongStates(t *testing.T) {
	for _, s := range wrong() {
		mustFold(t, "no items", s, nil, []api.State{{}}, nil)
		one := api.State{Lists: []api.List{{Id: 2, Name: "new"}}}
		l := []api.Item{edit(3, "x"), addList(2, "new"), drop(3)}
		mustFold(t, "items", s, l, []api.State{{}, {}, one, one}, []api.Errno{api.ErrTask, api.OK, api.ErrList})
	}
}

// P14.1: who issued an item, and its number, play no part.
func TestIdentAndIdPlayNoPart(t *testing.T) {
	l := []api.Item{addTag(3, "a"), addTag(3, "a"), edit(3, "x"), edit(7, "y"), addTask(7, 2, "z", 1)}
	s, e := fold.All(small(), l...)
	if !slices.Equal(e, []api.Errno{api.OK, api.ErrThere, api.OK, api.OK, api.ErrThere}) {
		t.Fatal(e)
	}
	states := []api.State{}
	for _, s := range fold.Each(small(), l...) {
		states = append(states, s)
	}
	ids := []uint64{0, 1, 2, 3, 7, 1 << 40, greatest}
	for i := range ids {
		for j := range ids {
			for k := range l {
				l[k].Ident, l[k].Id = ids[(i+j*k)%len(ids)], ids[(j+i*k)%len(ids)]
			}
			mustFold(t, "other Idents and Ids", small(), l, states, e)
		}
	}
	mustBe(t, "the last state", states[5], s)
}

// P14.1: very many items.
func TestVeryManyItems(t *testing.T) {
	var l []api.Item
	for i := range 5000 {
		l = append(l, addList(1, "l"), edit(3, strings.Repeat("x", 1+i%60)))
	}
	s, e := fold.All(small(), l...)
	mustBe(t, "very many", s, func() api.State {
		s := with(func(x *api.Task) { x.Title = strings.Repeat("x", 1+4999%60) })
		s.Lists = slices.Insert(s.Lists, 0, api.List{Id: 1, Name: "l"})
		return s
	}())
	for i, got := range e {
		want := api.OK
		if i%2 == 0 && i > 0 {
			want = api.ErrThere
		}
		if got != want {
			t.Fatalf("item %d: %d, not %d", i, got, want)
		}
	}
	if len(e) != len(l) {
		t.Fatalf("%d errors of %d items", len(e), len(l))
	}
}
