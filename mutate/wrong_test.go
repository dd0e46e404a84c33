package mutate_test

import (
	"math"
	"strings"
	"testing"

	"factotum/api"
	"factotum/mutate"
	"factotum/task"
)

// wrongState is a state that isn't Right, and what task.Right tells of it.
type wrongState struct {
	what string
	s    api.State
	err  api.Errno
}

// wrongStates have each fault that the chapter of task names, one a state.
func wrongStates() []wrongState {
	lists := func(l ...api.List) api.State {
		s := mixed()
		s.Lists = l
		return s
	}
	changed := func(id uint64, change func(x *api.Task)) api.State { return but(mixed(), id, change) }
	long := strings.Repeat("x", mostTitle+1)
	l := mixed().Lists
	all := []wrongState{
		{"too many lists", filled(mostLists+1, 1, 0), api.ErrMany},
		{"too many tasks", filled(1, mostTasks+1, 0), api.ErrMany},
		{"a list 0", lists(api.List{Name: "l"}, l[0], l[1], l[2]), api.ErrList},
		{"a list that is there twice", lists(l[0], l[0], l[1], l[2]), api.ErrList},
		{"lists turned round", lists(l[0], l[2], l[1]), api.ErrList},
		{"a list without a Name", lists(l[0], l[1], api.List{Id: 9}), api.ErrText},
		{"a Name too long", lists(l[0], api.List{Id: 5, Name: long}, l[2]), api.ErrText},
		{"a Name of bytes that may not be", lists(api.List{Id: 2, Name: "a\n"}, l[1], l[2]), api.ErrText},
		{"tasks without lists", lists(), api.ErrList},
		{"a task 0", changed(3, func(x *api.Task) { x.Id = 0 }), api.ErrTask},
		{"a task that is there twice", changed(4, func(x *api.Task) { x.Id = 3 }), api.ErrTask},
		{"tasks that don't rise", changed(300, func(x *api.Task) { x.Id = 7 }), api.ErrTask},
		{"a task of no list", changed(greatest, func(x *api.Task) { x.List = 3 }), api.ErrList},
		{"a task of list 0", changed(3, func(x *api.Task) { x.List = 0 }), api.ErrList},
		{"no Title", changed(6, func(x *api.Task) { x.Title = "" }), api.ErrText},
		{"a Title too long", changed(6, func(x *api.Task) { x.Title = long }), api.ErrText},
		{"a Title of bytes that may not be", changed(6, func(x *api.Task) { x.Title = "\x7f" }), api.ErrText},
		{"a Rank that is a NaN", changed(7, func(x *api.Task) { x.Rank = theNaN }), api.ErrRank},
		{"too many Tags", changed(8, func(x *api.Task) { x.Tags = []string{"a", "b", "c", "d", "e"} }), api.ErrMany},
		{"a Tag twice", changed(8, func(x *api.Task) { x.Tags = []string{"a", "b", "b"} }), api.ErrText},
		{"Tags turned round", changed(8, func(x *api.Task) { x.Tags = []string{"b", "a"} }), api.ErrText},
		{"an empty Tag", changed(8, func(x *api.Task) { x.Tags = []string{""} }), api.ErrText},
		{"a Tag of bytes that may not be", changed(8, func(x *api.Task) { x.Tags = []string{"A"} }), api.ErrText},
		{"a Tag too long", changed(8, func(x *api.Task) { x.Tags = []string{long[:mostTag+1]} }), api.ErrText},
	}
	for _, f := range unclean() {
		all = append(all,
			wrongState{"a Rank that isn't Canon", changed(300, func(x *api.Task) { x.Rank = f }), api.ErrRank},
			wrongState{"an Est that isn't Canon", changed(300, func(x *api.Task) { x.Est = f }), api.ErrState})
	}
	return all
}

// P11.2: of a state that isn't Right there is task.Right's error, whatever the mutation is.
func TestApplyToWrongStates(t *testing.T) {
	for _, x := range wrongStates() {
		if e := task.Right(x.s); e != x.err {
			t.Fatalf("%s: task.Right tells %d, not %d", x.what, e, x.err)
		}
		for _, y := range rows() {
			mustRefuse(t, x.what, x.s, y.right, x.err)
			for _, change := range []func(m *api.Mut){
				func(m *api.Mut) { m.Kind = 0 }, func(m *api.Mut) { m.Kind = 14 }, func(m *api.Mut) { m.Kind = math.MinInt },
				func(m *api.Mut) { m.Id = 0 }, func(m *api.Mut) { m.List = 0 }, func(m *api.Mut) { m.Text = "\n" }, func(m *api.Mut) { m.Text = "" },
				func(m *api.Mut) { m.F = theNaN }, func(m *api.Mut) { m.F = minusZero }, func(m *api.Mut) { m.Flag = true },
				// What would put the fault right is refused, too.
				func(m *api.Mut) { m.Id = 8 }, func(m *api.Mut) { m.Id = 300 }, func(m *api.Mut) { m.Id = 6 }, func(m *api.Mut) { m.Id, m.List = greatest, 9 },
			} {
				m := y.right
				change(&m)
				mustRefuse(t, x.what, x.s, m, x.err)
			}
		}
	}
}

// P11.2: of a Right state there is Check's error, ahead of all that would follow.
func TestApplyOfWrongMutations(t *testing.T) {
	states := []api.State{{}, mixed(), filled(mostLists, mostTasks, mostTags)}
	for _, x := range rows() {
		n := 0
		tries(x, func(m api.Mut, err api.Errno) {
			// Every 7th: enough of each error, and no more states told than there is time for.
			if n++; n%7 != 0 || err == api.OK {
				return
			}
			for _, s := range states {
				if got, e := mutate.Apply(s, m); e != err || told(got) != "" {
					t.Fatalf("%s: %d, %s, not %d", toldMut(m), e, told(got), err)
				}
			}
		})
	}
	for _, kind := range noKinds() {
		for _, s := range states {
			mustRefuse(t, "no Kind", s, api.Mut{Kind: kind, Id: 10, List: 10, Text: "t", F: 1}, api.ErrMut)
			mustRefuse(t, "no Kind", s, api.Mut{Kind: kind}, api.ErrMut)
		}
	}
}

// P11.2: Check's error, where the state has an error for that mutation, too; by hand.
func TestApplyOfWrongMutationsByHand(t *testing.T) {
	full := filled(mostLists, mostTasks, mostTags)
	for _, x := range []struct {
		s   api.State
		m   api.Mut
		err api.Errno
	}{
		{mixed(), api.Mut{Kind: api.MutList, Id: 2}, api.ErrText},
		{full, api.Mut{Kind: api.MutList, Id: 1, Text: "\n"}, api.ErrText},
		{full, api.Mut{Kind: api.MutList, Id: 1, Text: "l", Flag: true}, api.ErrMut},
		{mixed(), api.Mut{Kind: api.MutDrop, Id: 3, List: 3}, api.ErrMut},
		{mixed(), api.Mut{Kind: api.MutMake, Id: 3, List: 2, Text: "a", F: theNaN}, api.ErrRank},
		{mixed(), api.Mut{Kind: api.MutMake, Id: 3, List: 3}, api.ErrText},
		{full, api.Mut{Kind: api.MutMake, Id: 1, List: 10, Text: "a", F: minusZero}, api.ErrMut},
		{mixed(), api.Mut{Kind: api.MutEdit, Id: 1, Text: ""}, api.ErrText},
		{mixed(), api.Mut{Kind: api.MutDone, Id: 1, F: theNaN}, api.ErrMut},
		{mixed(), api.Mut{Kind: api.MutMove, Id: 1, List: 1, F: theNaN}, api.ErrRank},
		{mixed(), api.Mut{Kind: api.MutMove, Id: 1, F: 1}, api.ErrList},
		{mixed(), api.Mut{Kind: api.MutRank, Id: 1, F: theNaN}, api.ErrRank},
		{mixed(), api.Mut{Kind: api.MutEst, Id: 1, F: minusZero}, api.ErrMut},
		{mixed(), api.Mut{Kind: api.MutTag, Id: 1, Text: "A"}, api.ErrText},
		{mixed(), api.Mut{Kind: api.MutUntag, Id: 4, Text: "A"}, api.ErrText},
		{mixed(), api.Mut{Kind: api.MutDelete, Id: 1, Text: "a"}, api.ErrMut},
		{mixed(), api.Mut{Kind: api.MutClear, List: 3, Id: 3}, api.ErrMut},
		{mixed(), api.Mut{Kind: api.MutSpread, List: 3, F: 1}, api.ErrMut},
	} {
		mustRefuse(t, "by hand", x.s, x.m, x.err)
	}
}

// P1, P4: whatever is handed in, each call ends and doesn't panic; an error has no state beside it, and is the state's, then the mutation's.
func TestNothingPanics(t *testing.T) {
	r := random(1)
	ids := []uint64{0, 0, 1, 2, 3, 5, 9, 10, 1 << 63, greatest}
	texts := []string{"", "a", "b", "A", "\x00", "é", strings.Repeat("a", 17), strings.Repeat("a", 61), strings.Repeat("\xff", 70000)}
	floats := append(append(numbers(), theNaN), unclean()...)
	mutations := func() api.Mut {
		kind := oneOf(r, append(kinds(), 0, 14, -1, math.MinInt, math.MaxInt))
		return api.Mut{Kind: kind, Id: oneOf(r, ids), List: oneOf(r, ids), Text: oneOf(r, texts), F: oneOf(r, floats), Flag: r(2) == 1}
	}
	states := func() api.State {
		var s api.State
		for range oneOf(r, []int{0, 1, 2, 5, 20, 21, 200}) {
			s.Lists = append(s.Lists, api.List{Id: oneOf(r, ids), Name: oneOf(r, texts)})
		}
		for range oneOf(r, []int{0, 1, 2, 5, 60, 61, 600}) {
			x := api.Task{Id: oneOf(r, ids), List: oneOf(r, ids), Title: oneOf(r, texts), Rank: oneOf(r, floats), Est: oneOf(r, floats)}
			for range oneOf(r, []int{0, 1, 2, 4, 5, 50}) {
				x.Tags = append(x.Tags, oneOf(r, texts))
			}
			s.Tasks = append(s.Tasks, x)
		}
		return s
	}
	pool := []api.State{{}, {Lists: []api.List{}, Tasks: []api.Task{}}, mixed(), one()}
	for range 60 {
		pool = append(pool, states())
	}
	for range 20000 {
		s, m := oneOf(r, pool), mutations()
		got, e := mutate.Apply(s, m)
		if e != api.OK && (len(got.Lists) != 0 || len(got.Tasks) != 0) {
			t.Fatalf("%s: %d with %s", toldMut(m), e, told(got))
		}
		want := task.Right(s)
		if want == api.OK {
			want = mutate.Check(m)
		}
		if want != api.OK && e != want {
			t.Fatalf("%s: %d, not %d", toldMut(m), e, want)
		}
		mutate.Of(mutate.Put(m))
		if other := mutations(); !mutate.Same(m, m) || mutate.Same(m, other) != mutate.Same(other, m) {
			t.Fatalf("Same of %s and %s", toldMut(m), toldMut(other))
		}
	}
}

// P2, P11.2: what Apply tells shares nothing with what was handed in, nor with another answer, nor one of its lists with another.
func TestApplyIsNotShared(t *testing.T) {
	for _, m := range []api.Mut{
		{Kind: api.MutList, Id: 1, Text: "new"}, {Kind: api.MutList, Id: greatest, Text: "new"}, {Kind: api.MutDrop, Id: 5}, {Kind: api.MutDrop, Id: 2},
		{Kind: api.MutMake, Id: 1, List: 5, Text: "new"}, {Kind: api.MutMake, Id: 299, List: 5, Text: "new"}, {Kind: api.MutEdit, Id: 3, Text: "new"},
		{Kind: api.MutDone, Id: 3, Flag: true}, {Kind: api.MutMove, Id: 3, List: 5, F: 1}, {Kind: api.MutRank, Id: 3, F: 1}, {Kind: api.MutEst, Id: 3, F: 1},
		{Kind: api.MutTag, Id: 4, Text: "a"}, {Kind: api.MutTag, Id: 4, Text: "e"}, {Kind: api.MutUntag, Id: 4, Text: "b"}, {Kind: api.MutUntag, Id: 4, Text: "d"},
		{Kind: api.MutDelete, Id: 3}, {Kind: api.MutDelete, Id: greatest}, {Kind: api.MutClear, List: 2}, {Kind: api.MutClear, List: 5},
		{Kind: api.MutSpread, List: 2}, {Kind: api.MutSpread, List: 5},
	} {
		s, shared := roomy(mixed()), []string{"b", "c", "d"}
		s.Tasks[1].Tags, s.Tasks[4].Tags, s.Tasks[5].Tags = shared[:3], shared[:2], shared[:1]
		was := told(wide(s))
		a, e := mutate.Apply(s, m)
		b, _ := mutate.Apply(s, m)
		want := told(a)
		if e != api.OK || told(b) != want {
			t.Fatalf("%s: %d", toldMut(m), e)
		}
		for i := range a.Tasks {
			_ = append(a.Tasks[i].Tags, "more")
			_ = append(b.Tasks[i].Tags, "more")
		}
		if told(a) != want || told(b) != want {
			t.Fatalf("%s: one list of an answer shares memory with another", toldMut(m))
		}
		spoil(b)
		if told(wide(s)) != was || told(a) != want {
			t.Fatalf("%s: an answer shares memory with what was handed in, or with another answer", toldMut(m))
		}
		spoil(s)
		if told(a) != want {
			t.Fatalf("%s: what is told hangs on what was handed in", toldMut(m))
		}
		if strings.Contains(told(wide(a)), "behind") {
			t.Fatalf("%s: what lies behind a list's length is handed out", toldMut(m))
		}
	}
}
