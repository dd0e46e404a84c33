package diff_test

import (
	"slices"
	"strings"
	"testing"

	"factotum/api"
	"factotum/diff"
	"factotum/task"
)

// P12.2: of a patch of nothing comes the Canon of the state, where that is Right.
func TestApplyOfNothing(t *testing.T) {
	empty := api.Patch{Lists: []api.List{}, Tasks: []api.Task{}, GoneLists: []uint64{}, GoneTasks: []uint64{}}
	for _, s := range []api.State{{}, mixed(), filled(1, 0), filled(mostLists, mostTasks)} {
		for _, p := range []api.Patch{{}, empty} {
			mustApply(t, "nothing", s, p, s)
			mustApply(t, "nothing", turnedRound(s), p, s)
		}
	}
}

// P12.2: what is Gone goes, one thing of each kind, and several in any order.
func TestApplyOfGone(t *testing.T) {
	s := mixed()
	for i, x := range s.Tasks {
		mustApply(t, "a task goes", s, api.Patch{GoneTasks: []uint64{x.Id}}, but(s, func(s *api.State) { s.Tasks = slices.Delete(s.Tasks, i, i+1) }))
	}
	mustApply(t, "a list goes", s, api.Patch{GoneLists: []uint64{7}}, but(s, func(s *api.State) { s.Lists = slices.Delete(s.Lists, 1, 2) }))
	for _, l := range [][]uint64{{3, 300}, {300, 3}} {
		want := but(s, func(s *api.State) {
			s.Lists, s.Tasks = s.Lists[:1], []api.Task{s.Tasks[1], s.Tasks[2], s.Tasks[4]}
		})
		mustApply(t, "a list with its tasks", s, api.Patch{GoneLists: []uint64{7, 1 << 40}, GoneTasks: l}, want)
		mustApply(t, "a list with its tasks", turnedRound(s), api.Patch{GoneLists: []uint64{1 << 40, 7}, GoneTasks: l}, want)
	}
	mustApply(t, "all tasks", s, api.Patch{GoneTasks: []uint64{7, 3, 300, greatest, 4}}, api.State{Lists: s.Lists})
	mustApply(t, "all", s, api.Patch{GoneLists: []uint64{7, 1 << 40, 2}, GoneTasks: []uint64{7, 3, 300, greatest, 4}}, api.State{})
}

// P12.2: ErrPatch, where one that is Gone isn't there, whatever stands ahead of it or behind.
func TestApplyOfGoneThatIsNotThere(t *testing.T) {
	s := mixed()
	for _, l := range [][]uint64{
		{0}, {1}, {3}, {300}, {greatest}, {7 + 1<<32}, {1<<40 + 1}, {1, 7}, {7, 1}, {7, 7}, {7, 7, 7}, {7, 1, 7}, {1, 1},
	} {
		mustRefuse(t, "no such list", s, api.Patch{GoneLists: l}, api.ErrPatch)
		mustRefuse(t, "no such list", turnedRound(s), api.Patch{GoneLists: l, GoneTasks: []uint64{3}}, api.ErrPatch)
	}
	for _, l := range [][]uint64{
		{0}, {1}, {2}, {1 << 40}, {greatest - 1}, {3 + 1<<32}, {1, 3}, {3, 1}, {3, 4, 1, 7}, {3, 3}, {3, 4, 3}, {4, 4, 3}, {1, 1},
	} {
		mustRefuse(t, "no such task", s, api.Patch{GoneTasks: l}, api.ErrPatch)
		mustRefuse(t, "no such task", turnedRound(s), api.Patch{GoneTasks: l, GoneLists: []uint64{7}}, api.ErrPatch)
	}
	mustRefuse(t, "nothing is there", api.State{}, api.Patch{GoneLists: []uint64{1}}, api.ErrPatch)
	mustRefuse(t, "nothing is there", api.State{}, api.Patch{GoneTasks: []uint64{1}}, api.ErrPatch)
}

// P12.2: what goes, goes ahead of what comes: a part of the patch isn't there yet.
func TestApplyOfGoneThatComes(t *testing.T) {
	s := mixed()
	l, x := api.List{Id: 5, Name: "new"}, api.Task{Id: 5, List: 2, Title: "new"}
	mustRefuse(t, "a list that comes", s, api.Patch{GoneLists: []uint64{5}, Lists: []api.List{l}}, api.ErrPatch)
	mustRefuse(t, "a task that comes", s, api.Patch{GoneTasks: []uint64{5}, Tasks: []api.Task{x}}, api.ErrPatch)
	mustRefuse(t, "a list that comes in the place of one", s, api.Patch{GoneLists: []uint64{7, 7}, Lists: []api.List{{Id: 7, Name: "new"}}}, api.ErrPatch)
	mustRefuse(t, "a task that comes in the place of one", s, api.Patch{GoneTasks: []uint64{3, 3}, Tasks: []api.Task{{Id: 3, List: 2, Title: "new"}}}, api.ErrPatch)
	mustApply(t, "gone, and there again", s,
		api.Patch{GoneLists: []uint64{2}, Lists: []api.List{{Id: 2, Name: "new"}}, GoneTasks: []uint64{4}, Tasks: []api.Task{{Id: 4, List: 7, Title: "new"}}},
		but(s, func(s *api.State) {
			s.Lists[0].Name, s.Tasks[1] = "new", api.Task{Id: 4, List: 7, Title: "new"}
		}))
	mustApply(t, "gone, and there again as it was", s, api.Patch{GoneLists: []uint64{2, 7}, Lists: s.Lists, GoneTasks: []uint64{4, 3}, Tasks: s.Tasks}, s)
}

// P12.2: ErrPatch comes ahead of what task.Right would tell.
func TestApplyOfGoneComesFirst(t *testing.T) {
	wrong := api.Task{Id: 3, List: 99}
	for _, p := range []api.Patch{
		{GoneLists: []uint64{2, 5}}, {GoneLists: []uint64{2}, GoneTasks: []uint64{5}}, {GoneTasks: []uint64{5}, Tasks: []api.Task{wrong}},
		{GoneLists: []uint64{5}, Lists: make([]api.List, 30)}, {GoneTasks: []uint64{5}, Lists: filled(30, 0).Lists},
	} {
		mustRefuse(t, "two errors", mixed(), p, api.ErrPatch)
	}
	mustRefuse(t, "a state that isn't Right", api.State{Tasks: []api.Task{wrong}}, api.Patch{GoneTasks: []uint64{4}}, api.ErrPatch)
}

// P12.2: what is new comes in its place, by its Id, however the patch has it ordered.
func TestApplyOfNew(t *testing.T) {
	s := mixed()
	for _, id := range []uint64{1, 5, 299, 301, 1 << 50, greatest - 1} {
		l, x := api.List{Id: id, Name: "new"}, api.Task{Id: id, List: 2, Title: "new", Done: true, Rank: 6, Est: theNaN, Tags: []string{"x"}}
		mustApply(t, "a list", s, api.Patch{Lists: []api.List{l}}, task.Canon(but(s, func(s *api.State) { s.Lists = append(s.Lists, l) })))
		mustApply(t, "a task", s, api.Patch{Tasks: []api.Task{x}}, task.Canon(but(s, func(s *api.State) { s.Tasks = append(s.Tasks, x) })))
		x.List = id
		mustApply(t, "a task of a list that comes, too", s, api.Patch{Lists: []api.List{l}, Tasks: []api.Task{x}},
			task.Canon(but(s, func(s *api.State) { s.Lists, s.Tasks = append(s.Lists, l), append(s.Tasks, x) })))
	}
	mustApply(t, "all", api.State{}, api.Patch{Lists: s.Lists, Tasks: s.Tasks}, s)
	r := turnedRound(s)
	mustApply(t, "all, turned round", api.State{}, api.Patch{Lists: r.Lists, Tasks: r.Tasks}, s)
	mustApply(t, "what is there", s, api.Patch{Lists: r.Lists, Tasks: r.Tasks}, s)
}

// P12.2: what has the Id of something there comes in its place, with all of its fields.
func TestApplyInThePlace(t *testing.T) {
	s := mixed()
	for i, l := range s.Lists {
		l.Name = "new"
		mustApply(t, "a list", s, api.Patch{Lists: []api.List{l}}, but(s, func(s *api.State) { s.Lists[i] = l }))
	}
	for i, x := range s.Tasks {
		n := api.Task{Id: x.Id, List: 7, Title: "new", Done: !x.Done, Rank: 61, Est: 7, Tags: []string{"new"}}
		mustApply(t, "a task", s, api.Patch{Tasks: []api.Task{n}}, but(s, func(s *api.State) { s.Tasks[i] = n }))
		n.Tags = nil
		mustApply(t, "a task without Tags", turnedRound(s), api.Patch{Tasks: []api.Task{n}}, but(s, func(s *api.State) { s.Tasks[i] = n }))
	}
	// Where a task stays, its list may be another one of that Id, and where a list goes, its task may go to another one.
	mustApply(t, "to another list", s, api.Patch{GoneLists: []uint64{1 << 40}, Tasks: []api.Task{{Id: 3, List: 7, Title: "a"}, {Id: 300, List: 2, Title: "b"}}},
		but(s, func(s *api.State) {
			s.Lists = s.Lists[:2]
			s.Tasks[0], s.Tasks[3] = api.Task{Id: 3, List: 7, Title: "a"}, api.Task{Id: 300, List: 2, Title: "b"}
		}))
}

// P12.2: of several of one Id in the patch the first alone counts, also where a later one may not be.
func TestApplyOfIdsTwice(t *testing.T) {
	s := mixed()
	first := api.Task{Id: 4, List: 7, Title: "first", Tags: []string{"x"}}
	want := but(s, func(s *api.State) { s.Lists[0].Name, s.Tasks[1] = "first", first })
	for _, later := range []api.Task{s.Tasks[1], {Id: 4, List: 7, Title: "later"}, {Id: 4}, {Id: 4, List: 5, Rank: theNaN}} {
		mustApply(t, "in the place", s, api.Patch{
			Lists: []api.List{{Id: 2, Name: "first"}, {Id: 2, Name: "later"}, {Id: 2}},
			Tasks: []api.Task{first, later, later},
		}, want)
		mustApply(t, "not one behind the other", s, api.Patch{
			Lists: []api.List{{Id: 2, Name: "first"}, s.Lists[1], {Id: 2, Name: "later"}, s.Lists[2], {Id: 2}},
			Tasks: []api.Task{s.Tasks[2], first, s.Tasks[0], later, s.Tasks[4], later},
		}, want)
		mustApply(t, "new", api.State{Lists: s.Lists}, api.Patch{Tasks: []api.Task{first, later, later}}, api.State{Lists: s.Lists, Tasks: []api.Task{first}})
		mustApply(t, "gone, too", s, api.Patch{
			GoneLists: []uint64{2}, Lists: []api.List{{Id: 2, Name: "first"}, {Id: 2, Name: "later"}},
			GoneTasks: []uint64{4}, Tasks: []api.Task{first, later},
		}, want)
	}
	mustRefuse(t, "the first may not be", s, api.Patch{Lists: []api.List{{Id: 2}, s.Lists[0]}}, api.ErrText)
	mustRefuse(t, "the first may not be", s, api.Patch{Tasks: []api.Task{{Id: 4, List: 5, Title: "a"}, s.Tasks[1]}}, api.ErrList)
	// Counted once, 20 lists and 60 tasks are not too many, however often the patch has them.
	f := filled(mostLists, mostTasks)
	mustApply(t, "all twice", api.State{}, api.Patch{Lists: slices.Repeat(f.Lists, 2), Tasks: slices.Repeat(f.Tasks, 3)}, f)
}

// P12.2: a state that is not in order, or has Ids twice, is taken as its Canon.
func TestApplyToAnyOrder(t *testing.T) {
	s := mixed()
	twice := but(s, func(s *api.State) {
		s.Lists = append(s.Lists, api.List{Id: 2, Name: "later"}, api.List{Id: 7})
		s.Tasks = append(s.Tasks, api.Task{Id: 3, List: 2, Title: "later"}, api.Task{Id: 4})
		s.Lists[1], s.Lists[2], s.Tasks[0], s.Tasks[4] = s.Lists[2], s.Lists[1], s.Tasks[4], s.Tasks[0]
		// The first task 3 stands ahead of the one that is laid behind.
		s.Tasks[4], s.Tasks[1] = s.Tasks[1], s.Tasks[4]
	})
	for _, x := range []api.State{twice, turnedRound(s)} {
		mustApply(t, "nothing", x, api.Patch{}, s)
		mustApply(t, "some go", x, api.Patch{GoneLists: []uint64{7}, GoneTasks: []uint64{3}},
			but(s, func(s *api.State) { s.Lists, s.Tasks = slices.Delete(s.Lists, 1, 2), s.Tasks[1:] }))
		mustRefuse(t, "the first goes, and the second isn't there", x, api.Patch{GoneTasks: []uint64{3, 3}}, api.ErrPatch)
		mustRefuse(t, "the first goes, and the second isn't there", x, api.Patch{GoneLists: []uint64{7, 7}}, api.ErrPatch)
		mustApply(t, "some come", x, api.Patch{Lists: []api.List{{Id: 7, Name: "new"}}, Tasks: []api.Task{{Id: 3, List: 7, Title: "new"}}},
			but(s, func(s *api.State) { s.Lists[1].Name, s.Tasks[0] = "new", api.Task{Id: 3, List: 7, Title: "new"} }))
	}
	signs := but(s, func(s *api.State) {
		s.Tasks[3].Rank, s.Tasks[2].Est = minusZero, minusZero
		s.Tasks[0].Tags = []string{"d", "b", "b"}
	})
	mustApply(t, "noughts and Tags", signs, api.Patch{}, s)
	for _, f := range otherNaNs() {
		mustApply(t, "NaNs", but(s, func(s *api.State) { s.Tasks[4].Est = f }), api.Patch{}, s)
	}
}

// wrongPatch is a patch of which to mixed comes what isn't Right, and the error.
type wrongPatch struct {
	what string
	p    api.Patch
	err  api.Errno
}

// wrongPatches have each fault that the chapter of task names and that a patch can bring.
func wrongPatches() []wrongPatch {
	list := func(id uint64, name string) api.Patch { return api.Patch{Lists: []api.List{{Id: id, Name: name}}} }
	with := func(change func(x *api.Task)) api.Patch {
		x := api.Task{Id: 3, List: 2, Title: "t", Tags: []string{"a"}}
		change(&x)
		return api.Patch{Tasks: []api.Task{x}}
	}
	tags := func(tags ...string) api.Patch { return with(func(x *api.Task) { x.Tags = tags }) }
	long := strings.Repeat("x", mostTitle+1)
	l := []wrongPatch{
		{"a list 0", list(0, "l"), api.ErrList},
		{"a list without a Name", list(5, ""), api.ErrText},
		{"a Name too long", list(7, long), api.ErrText},
		{"a Name of bytes that may not be", list(7, "\n"), api.ErrText},
		{"a task 0", with(func(x *api.Task) { x.Id = 0 }), api.ErrTask},
		{"a task of no list", with(func(x *api.Task) { x.List = 3 }), api.ErrList},
		{"a new task of no list", with(func(x *api.Task) { x.Id, x.List = 5, 0 }), api.ErrList},
		{"a task of a list that goes", api.Patch{GoneLists: []uint64{7}, Tasks: []api.Task{{Id: 3, List: 7, Title: "t"}}}, api.ErrList},
		{"a list that goes without its tasks", api.Patch{GoneLists: []uint64{2}}, api.ErrList},
		{"a list that goes with some of its tasks", api.Patch{GoneLists: []uint64{2}, GoneTasks: []uint64{4, 7}}, api.ErrList},
		{"no Title", with(func(x *api.Task) { x.Title = "" }), api.ErrText},
		{"a Title too long", with(func(x *api.Task) { x.Title = long }), api.ErrText},
		{"a Title of bytes that may not be", with(func(x *api.Task) { x.Title = "\x7f" }), api.ErrText},
		{"a Rank that is a NaN", with(func(x *api.Task) { x.Rank = theNaN }), api.ErrRank},
		{"too many Tags", tags("a", "b", "c", "d", "e"), api.ErrMany},
		{"a Tag twice", tags("a", "a"), api.ErrText},
		{"Tags turned round", tags("b", "a"), api.ErrText},
		{"an empty Tag", tags(""), api.ErrText},
		{"a Tag too long", tags(long[:mostTag+1]), api.ErrText},
		{"too many lists", api.Patch{Lists: filled(mostLists-2, 0).Lists}, api.ErrMany},
		{"too many tasks", api.Patch{Lists: filled(1, 0).Lists, Tasks: filled(1, mostTasks).Tasks}, api.ErrMany},
		{"two faults, the list's first", api.Patch{Lists: []api.List{{Id: 2}}, Tasks: []api.Task{{Id: 3, List: 5}}}, api.ErrText},
		{"two faults, by Id", api.Patch{Tasks: []api.Task{{Id: 4, List: 2, Title: ""}, {Id: 3, List: 2, Title: "t", Rank: theNaN}}}, api.ErrRank},
	}
	for _, f := range unclean() {
		l = append(l,
			wrongPatch{"a Rank that isn't Canon", with(func(x *api.Task) { x.Rank = f }), api.ErrRank},
			wrongPatch{"an Est that isn't Canon", with(func(x *api.Task) { x.Est = f }), api.ErrState})
	}
	return l
}

// P12.2: task.Right's error of what comes of it; what the patch brings is taken as it is.
func TestApplyOfWrongParts(t *testing.T) {
	found := map[api.Errno]bool{}
	for _, x := range wrongPatches() {
		mustRefuse(t, x.what, mixed(), x.p, x.err)
		found[x.err] = true
	}
	for _, e := range []api.Errno{api.ErrState, api.ErrList, api.ErrTask, api.ErrText, api.ErrMany, api.ErrRank} {
		if !found[e] {
			t.Errorf("error %d never came", e)
		}
	}
}

// P12.2: of a state that isn't Right there is task.Right's error of what comes, too; what is wrong may go, or be put right.
func TestApplyToWrongStates(t *testing.T) {
	good := api.Task{Id: 3, List: 2, Title: "t"}
	for _, x := range []struct {
		wrong api.Task
		err   api.Errno
	}{
		{api.Task{Id: 3, List: 5, Title: "t"}, api.ErrList}, {api.Task{Id: 3, List: 2}, api.ErrText},
		{api.Task{Id: 3, List: 2, Title: "t", Rank: otherNaNs()[0]}, api.ErrRank},
		{api.Task{Id: 3, List: 2, Title: "t", Tags: []string{"e", "d", "c", "b", "a"}}, api.ErrMany},
		{api.Task{Id: 3, List: 2, Title: "t", Tags: []string{"b", "A"}}, api.ErrText},
		{api.Task{Id: 0, List: 2, Title: "t"}, api.ErrTask},
	} {
		s := but(mixed(), func(s *api.State) { s.Tasks[0] = x.wrong })
		mustRefuse(t, "nothing is put right", s, api.Patch{}, x.err)
		mustRefuse(t, "another task goes", s, api.Patch{GoneTasks: []uint64{300}}, x.err)
		mustApply(t, "the wrong one goes", s, api.Patch{GoneTasks: []uint64{x.wrong.Id}}, but(s, func(s *api.State) { s.Tasks = s.Tasks[1:] }))
		if x.wrong.Id == good.Id {
			mustApply(t, "the wrong one is put right", s, api.Patch{Tasks: []api.Task{good}}, but(s, func(s *api.State) { s.Tasks[0] = good }))
		}
	}
	none := api.State{Tasks: []api.Task{good}}
	mustRefuse(t, "no list", none, api.Patch{}, api.ErrList)
	mustApply(t, "the list comes", none, api.Patch{Lists: []api.List{{Id: 2, Name: "l"}}}, api.State{Lists: []api.List{{Id: 2, Name: "l"}}, Tasks: none.Tasks})
	zero := api.State{Lists: []api.List{{Id: 2, Name: "l"}, {Id: 0, Name: "l"}}}
	mustRefuse(t, "a list 0", zero, api.Patch{}, api.ErrList)
	mustApply(t, "list 0 goes", zero, api.Patch{GoneLists: []uint64{0}}, api.State{Lists: zero.Lists[:1]})
}

// P12.2: the counts at their bounds: of what comes of it, not of the state or the patch.
func TestApplyAtBounds(t *testing.T) {
	full := filled(mostLists, mostTasks)
	list, x := api.List{Id: 5, Name: "l"}, api.Task{Id: 5, List: 10, Title: "t"}
	less := api.State{Lists: full.Lists[:mostLists-1], Tasks: full.Tasks[:mostTasks-1]}
	mustApply(t, "up to the bounds", less, api.Patch{Lists: []api.List{list}, Tasks: []api.Task{x}},
		task.Canon(api.State{Lists: append([]api.List{list}, less.Lists...), Tasks: append([]api.Task{x}, less.Tasks...)}))
	mustRefuse(t, "a list too many", full, api.Patch{Lists: []api.List{list}}, api.ErrMany)
	mustRefuse(t, "a task too many", full, api.Patch{Tasks: []api.Task{x}}, api.ErrMany)
	mustRefuse(t, "a list too many", less, api.Patch{Lists: []api.List{list, {Id: 6, Name: "l"}}}, api.ErrMany)
	mustRefuse(t, "a task too many", less, api.Patch{Tasks: []api.Task{x, {Id: 6, List: 10, Title: "t"}}}, api.ErrMany)
	mustApply(t, "one for another", full, api.Patch{GoneLists: []uint64{20}, GoneTasks: []uint64{10}, Lists: []api.List{list}, Tasks: []api.Task{x}},
		but(full, func(s *api.State) {
			s.Lists = append([]api.List{list, s.Lists[0]}, s.Lists[2:]...)
			s.Tasks[0] = x
		}))
	mustApply(t, "in the place", full, api.Patch{Lists: full.Lists, Tasks: full.Tasks}, full)
	many := filled(mostLists+1, mostTasks+1)
	mustRefuse(t, "too many of both", many, api.Patch{}, api.ErrMany)
	mustRefuse(t, "too many tasks", many, api.Patch{GoneLists: []uint64{210}}, api.ErrMany)
	mustRefuse(t, "too many lists", many, api.Patch{GoneTasks: []uint64{610}}, api.ErrMany)
	mustApply(t, "one of both goes", many, api.Patch{GoneLists: []uint64{210}, GoneTasks: []uint64{610}}, full)
	far := filled(200, 700)
	p := diff.Of(far, full)
	mustApply(t, "many go", far, p, full)
	mustRefuse(t, "many come", full, diff.Of(full, far), api.ErrMany)
	mustApply(t, "many of one Id", full, api.Patch{Lists: slices.Repeat(full.Lists[:1], 3000), Tasks: slices.Repeat(full.Tasks[:1], 3000)}, full)
}
