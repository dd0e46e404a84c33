package task_test

import (
	"slices"
	"strings"
	"testing"

	"factotum/api"
	"factotum/task"
)

// P9.1: nothing is Right, and so is what has something in each field.
func TestRight(t *testing.T) {
	for _, s := range []api.State{
		{}, {Lists: []api.List{}, Tasks: []api.Task{}}, {Lists: lists(1, 1)}, one(plain()), sample(), roomy(sample()),
	} {
		mustBeRight(t, "a right state", s, api.OK)
	}
	r := random(1)
	for range 2000 {
		mustBeRight(t, "a right state", randomRight(r), api.OK)
	}
}

// P9.1: as many lists as may be, and more.
func TestRightOfManyLists(t *testing.T) {
	for _, n := range []int{0, 1, 2, mostLists - 1, mostLists} {
		mustBeRight(t, "lists", api.State{Lists: lists(1, n)}, api.OK)
	}
	for _, n := range []int{mostLists + 1, mostLists + 2, mostTasks, mostTasks + 1, 1000} {
		mustBeRight(t, "too many lists", api.State{Lists: lists(1, n)}, api.ErrMany)
		mustBeRight(t, "too many lists, with a task", api.State{Lists: lists(1, n), Tasks: tasks(1, 1, 1)}, api.ErrMany)
	}
	room := lists(1, mostLists+1)
	mustBeRight(t, "one more behind", api.State{Lists: room[:mostLists]}, api.OK)
}

// P9.1: as many tasks as may be, and more.
func TestRightOfManyTasks(t *testing.T) {
	for _, n := range []int{0, 1, 2, mostLists, mostLists + 1, mostTasks - 1, mostTasks} {
		mustBeRight(t, "tasks", api.State{Lists: lists(1, 1), Tasks: tasks(1, 1, n)}, api.OK)
	}
	for _, n := range []int{mostTasks + 1, mostTasks + 2, 1000} {
		mustBeRight(t, "too many tasks", api.State{Lists: lists(1, 1), Tasks: tasks(1, 1, n)}, api.ErrMany)
		mustBeRight(t, "too many tasks, without a list", api.State{Tasks: tasks(1, 1, n)}, api.ErrMany)
	}
	room := tasks(1, 1, mostTasks+1)
	mustBeRight(t, "one more behind", api.State{Lists: lists(1, mostLists), Tasks: room[:mostTasks]}, api.OK)
}

// idRows are Ids, and whether they rise from above 0 on.
var idRows = []struct {
	ids    []uint64
	rising bool
}{
	{[]uint64{1}, true}, {[]uint64{greatest}, true}, {[]uint64{1, 2}, true}, {[]uint64{1, greatest}, true},
	{[]uint64{greatest - 1, greatest}, true}, {[]uint64{5, 1 << 63, 1<<63 + 1}, true}, {[]uint64{1<<63 - 1, 1 << 63}, true},
	{[]uint64{0}, false}, {[]uint64{0, 1}, false}, {[]uint64{1, 0}, false}, {[]uint64{1, 2, 0}, false},
	{[]uint64{1, 1}, false}, {[]uint64{greatest, greatest}, false}, {[]uint64{1, 5, 5, 9}, false}, {[]uint64{1, 5, 9, 9}, false},
	{[]uint64{2, 1}, false}, {[]uint64{1, 5, 4, 9}, false}, {[]uint64{1, 5, 9, 8}, false}, {[]uint64{1, 5, 9, 4}, false},
	{[]uint64{greatest, 1}, false}, {[]uint64{1 << 63, 1<<63 - 1}, false}, {[]uint64{1, 3, 2, 3}, false},
}

// P9.1: Ids of lists and of tasks that are 0, that of the one ahead, below it, above it.
func TestRightOfIds(t *testing.T) {
	for _, x := range idRows {
		var l []api.List
		var m []api.Task
		for _, id := range x.ids {
			l = append(l, api.List{Id: id, Name: "l"})
			m = append(m, api.Task{Id: id, List: 4, Title: "a"})
		}
		wrongList, wrongTask := api.ErrList, api.ErrTask
		if x.rising {
			wrongList, wrongTask = api.OK, api.OK
		}
		mustBeRight(t, "Ids of lists", api.State{Lists: l}, wrongList)
		mustBeRight(t, "Ids of tasks", api.State{Lists: lists(4, 1), Tasks: m}, wrongTask)
	}
}

// P9.1: a task's List that isn't there, is 0, is the first one, the last one; Ids of tasks and of lists have nothing to do with each other.
func TestRightOfATasksList(t *testing.T) {
	l := []api.List{{Id: 2, Name: "a"}, {Id: 5, Name: "b"}, {Id: greatest, Name: "c"}}
	for _, list := range []uint64{2, 5, greatest} {
		mustBeRight(t, "a list that is there", api.State{Lists: l, Tasks: tasks(list, 1, 3)}, api.OK)
	}
	for _, list := range []uint64{0, 1, 3, 4, 6, greatest - 1} {
		mustBeRight(t, "a list that isn't there", api.State{Lists: l, Tasks: tasks(list, 1, 1)}, api.ErrList)
		later := append(tasks(5, 1, 3), tasks(list, 4, 1)...)
		mustBeRight(t, "a later task's list that isn't there", api.State{Lists: l, Tasks: later}, api.ErrList)
		mustBeRight(t, "no lists", api.State{Tasks: tasks(list, 1, 1)}, api.ErrList)
	}
	mustBeRight(t, "lists that lie behind", api.State{Lists: l[:2], Tasks: tasks(greatest, 1, 1)}, api.ErrList)
}

// mustTake asks whether this may be a name and a title.
func mustTake(t *testing.T, title string, is bool) {
	t.Helper()
	want := api.ErrText
	if is {
		want = api.OK
	}
	if task.Title(title) != is {
		t.Fatalf("Title of %q: %t", title, !is)
	}
	mustBeRight(t, "a name", api.State{Lists: []api.List{{Id: 2, Name: title}, {Id: 3, Name: "b"}}}, want)
	mustBeRight(t, "a later name", api.State{Lists: []api.List{{Id: 2, Name: "a"}, {Id: 3, Name: title}}}, want)
	x := plain()
	x.Title = title
	mustBeRight(t, "a title", one(x), want)
	later := one(plain())
	x.Id++
	later.Tasks = append(later.Tasks, x)
	mustBeRight(t, "a later title", later, want)
}

// replaced is s with c at this place.
func replaced(s string, at int, c byte) string { return s[:at] + string([]byte{c}) + s[at+1:] }

// P9.1: names and titles of all lengths about the bounds, and with every byte at each place.
func TestTitles(t *testing.T) {
	for _, n := range []int{0, 1, 2, 16, 17, 59, 60, 61, 62, 120, 255, 256, 316, 1 << 16} {
		mustTake(t, strings.Repeat("a", n), n >= 1 && n <= mostTitle)
	}
	for _, n := range []int{1, 2, 3, 59, 60} {
		for at := range n {
			for c := range 256 {
				mustTake(t, replaced(strings.Repeat("x", n), at, byte(c)), c >= 32 && c <= 126)
			}
		}
	}
	for _, title := range []string{titleBytes()[:60], titleBytes()[35:], strings.Repeat(" ", 60), "\"", "\\", "a b", "A~1"} {
		mustTake(t, title, true)
	}
	for _, title := range []string{"\n", "é", strings.Repeat("é", 30), "a\x00", "\xff", "\u2028", strings.Repeat(" ", 61)} {
		mustTake(t, title, false)
	}
}

// tagged is a state of one task with these Tags.
func tagged(tags ...string) api.State {
	x := plain()
	x.Tags = tags
	return one(x)
}

// mustTag asks whether this may be a tag.
func mustTag(t *testing.T, tag string, is bool) {
	t.Helper()
	want := api.ErrText
	if is {
		want = api.OK
	}
	if task.Tag(tag) != is {
		t.Fatalf("Tag of %q: %t", tag, !is)
	}
	mustBeRight(t, "a tag", tagged(tag), want)
}

// P9.1: tags of all lengths about the bounds, and with every byte at each place.
func TestTags(t *testing.T) {
	for _, n := range []int{0, 1, 2, 15, 16, 17, 18, 60, 61, 256, 272, 1 << 16} {
		mustTag(t, strings.Repeat("a", n), n >= 1 && n <= mostTag)
	}
	for _, n := range []int{1, 2, 3, 15, 16} {
		for at := range n {
			for c := range 256 {
				mustTag(t, replaced(strings.Repeat("x", n), at, byte(c)), strings.IndexByte(tagBytes, byte(c)) >= 0)
			}
		}
	}
	for _, tag := range []string{"-", "--", "0", "9", "a", "z", "a-1", "1-a", "zzzzzzzzzzzzzzzz"} {
		mustTag(t, tag, true)
	}
	for _, tag := range []string{"A", "aB", "a b", " a", "a_b", "a.b", "é", "a\x00", "-Z", "zzzzzzzzzzzzzzzzz"} {
		mustTag(t, tag, false)
	}
}

// P9.1: how many Tags there are, alike ones, and ones that don't rise.
func TestRightOfTags(t *testing.T) {
	all := []string{"-", "0", "a", "b", "c", "d"}
	for n := range len(all) + 1 {
		want := api.OK
		if n > mostTags {
			want = api.ErrMany
		}
		mustBeRight(t, "rising tags", tagged(all[:n]...), want)
	}
	for _, tags := range [][]string{
		{"a", "b", "c", "d"}, {"a", "aa"}, {"a", "aa", "ab", "b"}, {"-", "--", "-0"}, {"0", "00", "1"}, {"9", "a"}, {"-z", "0"},
	} {
		mustBeRight(t, "rising tags", tagged(tags...), api.OK)
	}
	for _, tags := range [][]string{
		{"a", "a"}, {"a", "b", "b"}, {"a", "a", "b"}, {"a", "b", "c", "c"}, {"b", "a"}, {"a", "c", "b"}, {"b", "a", "c"},
		{"a", "b", "d", "c"}, {"b", "c", "d", "a"}, {"aa", "a"}, {"a", "9"}, {"0", "-z"}, {"00", "0"}, {"a", "b", "a"},
		{"", "a"}, {"a", ""}, {"A", "a"}, {"a", "b", "c", "D"}, {"a", "b", "c", "x y"}, {"B", "C"}, {"a", "{"},
	} {
		mustBeRight(t, "wrong tags", tagged(tags...), api.ErrText)
		mustBeRight(t, "wrong tags", roomy(tagged(tags...)), api.ErrText)
	}
	mustBeRight(t, "wrong tags behind", tagged([]string{"a", "b", "A"}[:2]...), api.OK)
	for _, n := range []int{mostTags + 1, mostTitle, 1000} {
		mustBeRight(t, "too many tags", tagged(slices.Repeat([]string{""}, n)...), api.ErrMany)
	}
}

// P9.1: Ranks: numbers and infinities may be, NaNs and a nought with a sign may not.
func TestRightOfRanks(t *testing.T) {
	x := plain()
	for _, x.Rank = range numbers() {
		mustBeRight(t, "a rank", one(x), api.OK)
	}
	for _, x.Rank = range append(otherNaNs(), theNaN, minusZero) {
		mustBeRight(t, "no rank", one(x), api.ErrRank)
	}
}

// P9.1: Ests: also the one NaN may be.
func TestRightOfEsts(t *testing.T) {
	x := plain()
	for _, x.Est = range append(numbers(), theNaN) {
		mustBeRight(t, "an est", one(x), api.OK)
	}
	for _, x.Est = range append(otherNaNs(), minusZero) {
		mustBeRight(t, "no est", one(x), api.ErrState)
	}
}

// fault is something that may not be in a state, and what Right tells of it.
type fault struct {
	want api.Errno
	make func(s *api.State)
}

// taskFaults are those of the i-th task, in the order in which they are told; each leaves room for the others.
func taskFaults(i int, id uint64) []fault {
	return []fault{
		{api.ErrTask, func(s *api.State) { s.Tasks[i].Id = id }},
		{api.ErrList, func(s *api.State) { s.Tasks[i].List = 8 }},
		{api.ErrText, func(s *api.State) { s.Tasks[i].Title = "\n" }},
		{api.ErrRank, func(s *api.State) { s.Tasks[i].Rank = minusZero }},
		{api.ErrState, func(s *api.State) { s.Tasks[i].Est = minusZero }},
		{api.ErrMany, func(s *api.State) { s.Tasks[i].Tags = []string{"a", "b", "c", "d", "e"} }},
		{api.ErrText, func(s *api.State) { s.Tasks[i].Tags[0] = "A" }},
	}
}

// faults are all, in the order in which they are told.
func faults() []fault {
	l := []fault{
		{api.ErrMany, func(s *api.State) { s.Lists = append(s.Lists, lists(10, mostLists)...) }},
		{api.ErrMany, func(s *api.State) { s.Tasks = append(s.Tasks, tasks(2, 1000, mostTasks)...) }},
		{api.ErrList, func(s *api.State) { s.Lists[0].Id = 0 }},
		{api.ErrText, func(s *api.State) { s.Lists[0].Name = "" }},
		{api.ErrList, func(s *api.State) { s.Lists[2].Id = 7 }},
		{api.ErrText, func(s *api.State) { s.Lists[2].Name = strings.Repeat("a", 61) }},
	}
	l = append(l, taskFaults(0, 0)...)
	return append(l, taskFaults(2, 4)...)
}

// mustTellFirst asks that of these faults, in their order, the first one is told.
func mustTellFirst(t *testing.T, all []fault, chosen ...int) {
	t.Helper()
	s := sample()
	s.Tasks = s.Tasks[:3]
	for _, i := range chosen {
		all[i].make(&s)
	}
	if got := task.Right(s); got != all[chosen[0]].want {
		t.Fatalf("faults %v: %d, not %d", chosen, got, all[chosen[0]].want)
	}
}

// P9.1, P4: of several faults at once the first one is told: each alone, each two, each three, many.
func TestRightOfSeveralFaults(t *testing.T) {
	all := faults()
	for i := range all {
		mustTellFirst(t, all, i)
		for j := i + 1; j < len(all); j++ {
			mustTellFirst(t, all, i, j)
			for k := j + 1; k < len(all); k++ {
				mustTellFirst(t, all, i, j, k)
			}
		}
	}
	r := random(2)
	for range 5000 {
		var chosen []int
		for i := range all {
			if r(3) == 0 {
				chosen = append(chosen, i)
			}
		}
		if len(chosen) > 0 {
			mustTellFirst(t, all, chosen...)
		}
	}
}

// P9.1: a fault of the List comes ahead of those of the tasks of it; a later task's Id ahead of its other faults, but behind an earlier task's.
func TestRightTaskByTask(t *testing.T) {
	s := api.State{Lists: lists(1, 1), Tasks: []api.Task{{Id: 2, List: 1, Title: "a", Rank: theNaN}, {Id: 1, List: 9}}}
	mustBeRight(t, "an earlier task's Rank", s, api.ErrRank)
	s.Tasks[0].Rank = 0
	mustBeRight(t, "a later task's Id", s, api.ErrTask)
	s.Tasks[1].Id = 3
	mustBeRight(t, "a later task's List", s, api.ErrList)
	s.Tasks[1].List = 1
	mustBeRight(t, "a later task's Title", s, api.ErrText)
	s.Tasks[1].Title = "b"
	mustBeRight(t, "none", s, api.OK)
}
