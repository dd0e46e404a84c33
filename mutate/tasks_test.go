package mutate_test

import (
	"slices"
	"strings"
	"testing"

	"factotum/api"
)

// P11.2: a task put in where its list has none, and ahead of all, amid and behind all.
func TestMake(t *testing.T) {
	m := api.Mut{Kind: api.MutMake, Id: 5, List: 10, Text: "new", F: 2.5}
	made := api.Task{Id: 5, List: 10, Title: "new", Rank: 2.5, Est: theNaN}
	mustApply(t, "the first one", filled(1, 0, 0), m, api.State{Lists: filled(1, 0, 0).Lists, Tasks: []api.Task{made}})
	m.List, made.List = 20, 20
	mustApply(t, "of another list", filled(2, 1, 2), m, api.State{Lists: filled(2, 0, 0).Lists, Tasks: []api.Task{made, filled(2, 1, 2).Tasks[0]}})
	for id, at := range map[uint64]int{1: 0, 2: 0, 5: 2, 9: 5, 77: 5, 299: 5, 301: 6, greatest - 1: 6} {
		for _, list := range []uint64{2, 5, 9} {
			for i, f := range numbers() {
				title := strings.Repeat("n", 1+i*59/12)
				want := mixed()
				want.Tasks = slices.Insert(want.Tasks, at, api.Task{Id: id, List: list, Title: title, Rank: f, Est: theNaN})
				mustApply(t, "into many", mixed(), api.Mut{Kind: api.MutMake, Id: id, List: list, Text: title, F: f}, want)
			}
		}
	}
	want := without(nil, []uint64{greatest})
	want.Tasks = append(want.Tasks, api.Task{Id: greatest, List: 5, Title: "~", Est: theNaN})
	mustApply(t, "behind all", without(nil, []uint64{greatest}), api.Mut{Kind: api.MutMake, Id: greatest, List: 5, Text: "~"}, want)
}

// P11.2: MutMake of a task that is there, in a list that isn't, of one too many, and of two of these.
func TestMakeRefused(t *testing.T) {
	for _, x := range mixed().Tasks {
		for _, list := range []uint64{1, 2, 5, 9, 77} {
			mustRefuse(t, "there", mixed(), api.Mut{Kind: api.MutMake, Id: x.Id, List: list, Text: "new"}, api.ErrThere)
		}
	}
	for _, list := range []uint64{1, 3, 4, 77, greatest} {
		mustRefuse(t, "no such list", api.State{}, api.Mut{Kind: api.MutMake, Id: 1, List: list, Text: "new"}, api.ErrList)
		mustRefuse(t, "no such list", mixed(), api.Mut{Kind: api.MutMake, Id: 1, List: list, Text: "new"}, api.ErrList)
		mustRefuse(t, "no such list, and 60", filled(1, mostTasks, 0), api.Mut{Kind: api.MutMake, Id: 1, List: list, Text: "new"}, api.ErrList)
	}
	for _, id := range []uint64{10, 300, 600} {
		for _, list := range []uint64{10, 11} {
			mustRefuse(t, "there, and 60", filled(1, mostTasks, 0), api.Mut{Kind: api.MutMake, Id: id, List: list, Text: "new"}, api.ErrThere)
		}
	}
	for n := range mostTasks + 1 {
		s := filled(2, n, n%5)
		for id, at := range map[uint64]int{1: 0, 15: 1, 595: 59, 601: 60, greatest: 60} {
			m := api.Mut{Kind: api.MutMake, Id: id, List: 10, Text: "t", F: 1}
			if n == mostTasks {
				mustRefuse(t, "one too many", s, m, api.ErrMany)
				m.List = 20
				mustRefuse(t, "one too many, in a list without tasks", s, m, api.ErrMany)
				continue
			}
			made := api.Task{Id: id, List: 10, Title: "t", Rank: 1, Est: theNaN}
			want := api.State{Lists: s.Lists, Tasks: slices.Insert(slices.Clone(s.Tasks), min(at, n), made)}
			mustApply(t, "one more", s, m, want)
		}
	}
}

// P11.2: what becomes of one field of a task, whatever it was.
func TestFields(t *testing.T) {
	for _, x := range mixed().Tasks {
		for _, title := range []string{"~", x.Title, "Wash up", strings.Repeat(" ", mostTitle)} {
			want := but(mixed(), x.Id, func(x *api.Task) { x.Title = title })
			mustApply(t, "a Title", mixed(), api.Mut{Kind: api.MutEdit, Id: x.Id, Text: title}, want)
		}
		for _, done := range []bool{true, false} {
			want := but(mixed(), x.Id, func(x *api.Task) { x.Done = done })
			mustApply(t, "Done", mixed(), api.Mut{Kind: api.MutDone, Id: x.Id, Flag: done}, want)
		}
		for _, f := range numbers() {
			want := but(mixed(), x.Id, func(x *api.Task) { x.Rank = f })
			mustApply(t, "a Rank", mixed(), api.Mut{Kind: api.MutRank, Id: x.Id, F: f}, want)
		}
		for _, f := range append(numbers(), theNaN) {
			want := but(mixed(), x.Id, func(x *api.Task) { x.Est = f })
			mustApply(t, "an Est", mixed(), api.Mut{Kind: api.MutEst, Id: x.Id, F: f}, want)
		}
	}
	mustApply(t, "the only one's Title", one(), api.Mut{Kind: api.MutEdit, Id: 3, Text: "b"}, but(one(), 3, func(x *api.Task) { x.Title = "b" }))
	mustApply(t, "the only one's Done", one(), api.Mut{Kind: api.MutDone, Id: 3, Flag: true}, but(one(), 3, func(x *api.Task) { x.Done = true }))
	mustApply(t, "the only one's Rank", one(), api.Mut{Kind: api.MutRank, Id: 3, F: -inf}, but(one(), 3, func(x *api.Task) { x.Rank = -inf }))
	mustApply(t, "the only one's Est", one(), api.Mut{Kind: api.MutEst, Id: 3, F: -inf}, but(one(), 3, func(x *api.Task) { x.Est = -inf }))
}

// P11.2: MutMove to each list, the one where the task is, too.
func TestMove(t *testing.T) {
	for _, x := range mixed().Tasks {
		for _, list := range []uint64{2, 5, 9} {
			for _, f := range append(numbers(), x.Rank) {
				want := but(mixed(), x.Id, func(x *api.Task) { x.List, x.Rank = list, f })
				mustApply(t, "a List", mixed(), api.Mut{Kind: api.MutMove, Id: x.Id, List: list, F: f}, want)
			}
		}
		for _, list := range []uint64{1, 3, 4, 8, 77, greatest} {
			mustRefuse(t, "no such list", mixed(), api.Mut{Kind: api.MutMove, Id: x.Id, List: list, F: 1}, api.ErrList)
		}
	}
	mustApply(t, "the only one", one(), api.Mut{Kind: api.MutMove, Id: 3, List: 2, F: 7}, but(one(), 3, func(x *api.Task) { x.Rank = 7 }))
	full := filled(mostLists, mostTasks, mostTags)
	mustApply(t, "one of 60", full, api.Mut{Kind: api.MutMove, Id: 600, List: 200}, but(full, 600, func(x *api.Task) { x.List, x.Rank = 200, 0 }))
}

// P11.2: MutDelete of the first task, one amid, the last one, the only one.
func TestDelete(t *testing.T) {
	for _, x := range mixed().Tasks {
		mustApply(t, "one of many", mixed(), api.Mut{Kind: api.MutDelete, Id: x.Id}, without(nil, []uint64{x.Id}))
	}
	mustApply(t, "the only one", one(), api.Mut{Kind: api.MutDelete, Id: 3}, api.State{Lists: one().Lists})
	mustApply(t, "the last of 60", filled(1, mostTasks, 4), api.Mut{Kind: api.MutDelete, Id: 600}, filled(1, mostTasks-1, 4))
}

// P11.2: a task that isn't there, beside one that is, also where the list isn't there either.
func TestNoTask(t *testing.T) {
	for _, s := range []api.State{{}, {Lists: mixed().Lists}, one(), mixed(), filled(mostLists, mostTasks, mostTags)} {
		for _, id := range []uint64{1, 2, 5, 9, 77, 78, 299, 301, greatest - 1} {
			for _, m := range []api.Mut{
				{Kind: api.MutEdit, Id: id, Text: "a"}, {Kind: api.MutDone, Id: id, Flag: true}, {Kind: api.MutDone, Id: id},
				{Kind: api.MutMove, Id: id, List: 2, F: 1}, {Kind: api.MutMove, Id: id, List: 10}, {Kind: api.MutMove, Id: id, List: 77},
				{Kind: api.MutRank, Id: id, F: 1}, {Kind: api.MutEst, Id: id, F: 1}, {Kind: api.MutTag, Id: id, Text: "b"},
				{Kind: api.MutUntag, Id: id, Text: "b"}, {Kind: api.MutUntag, Id: id, Text: "none"}, {Kind: api.MutDelete, Id: id},
			} {
				mustRefuse(t, "no such task", s, m, api.ErrTask)
			}
		}
	}
}

// tagged is mixed with these Tags of this task.
func tagged(id uint64, tags ...string) api.State {
	return but(mixed(), id, func(x *api.Task) { x.Tags = tags })
}

// P11.2: MutTag of the first tag of a task, of one ahead of all, amid and behind all, and of a fourth one.
func TestTag(t *testing.T) {
	for tag, want := range map[string]api.State{
		"a": tagged(3, "a", "b", "d"), "-": tagged(3, "-", "b", "d"), "9": tagged(3, "9", "b", "d"), "aaaaaaaaaaaaaaaa": tagged(3, "aaaaaaaaaaaaaaaa", "b", "d"),
		"c": tagged(3, "b", "c", "d"), "b-": tagged(3, "b", "b-", "d"), "bb": tagged(3, "b", "bb", "d"),
		"d0": tagged(3, "b", "d", "d0"), "e": tagged(3, "b", "d", "e"), "zzzzzzzzzzzzzzzz": tagged(3, "b", "d", "zzzzzzzzzzzzzzzz"),
	} {
		mustApply(t, "beside two", mixed(), api.Mut{Kind: api.MutTag, Id: 3, Text: tag}, want)
	}
	mustApply(t, "the first one", mixed(), api.Mut{Kind: api.MutTag, Id: 8, Text: "b"}, tagged(8, "b"))
	mustApply(t, "the first one of the last task", mixed(), api.Mut{Kind: api.MutTag, Id: greatest, Text: "z"}, tagged(greatest, "z"))
	mustApply(t, "the only task's", one(), api.Mut{Kind: api.MutTag, Id: 3, Text: "z"}, but(one(), 3, func(x *api.Task) { x.Tags = []string{"z"} }))
	for tag, want := range map[string]api.State{
		"a": tagged(6, "a", "b", "d", "f"), "c": tagged(6, "b", "c", "d", "f"), "e": tagged(6, "b", "d", "e", "f"), "g": tagged(6, "b", "d", "f", "g"),
	} {
		mustApply(t, "the fourth one", mixed(), api.Mut{Kind: api.MutTag, Id: 6, Text: tag}, want)
	}
}

// P11.2: MutTag of a tag that is there, of one too many, and of both.
func TestTagRefused(t *testing.T) {
	for _, x := range mixed().Tasks {
		for _, tag := range x.Tags {
			mustRefuse(t, "there", mixed(), api.Mut{Kind: api.MutTag, Id: x.Id, Text: tag}, api.ErrThere)
		}
	}
	for _, tag := range []string{"--", "0", "99", "a", "n", "z", "zzz"} {
		mustRefuse(t, "a fifth one", mixed(), api.Mut{Kind: api.MutTag, Id: 7, Text: tag}, api.ErrMany)
	}
}

// P11.2: MutUntag of the first tag, one amid, the last one, the only one, and of one that isn't there.
func TestUntag(t *testing.T) {
	for _, x := range mixed().Tasks {
		for i, tag := range x.Tags {
			want := tagged(x.Id, slices.Delete(slices.Clone(x.Tags), i, i+1)...)
			mustApply(t, "one", mixed(), api.Mut{Kind: api.MutUntag, Id: x.Id, Text: tag}, want)
		}
		for _, tag := range []string{"--", "0", "99", "a", "c", "e", "hom", "homes", "n", "z", "zzz", "behind"} {
			mustRefuse(t, "not there", mixed(), api.Mut{Kind: api.MutUntag, Id: x.Id, Text: tag}, api.ErrNone)
		}
	}
	mustApply(t, "by hand", mixed(), api.Mut{Kind: api.MutUntag, Id: 7, Text: "9"}, tagged(7, "-", "m", "zz"))
	mustApply(t, "by hand", mixed(), api.Mut{Kind: api.MutUntag, Id: 4, Text: "b"}, tagged(4))
	mustRefuse(t, "the only task has none", one(), api.Mut{Kind: api.MutUntag, Id: 3, Text: "b"}, api.ErrNone)
}
