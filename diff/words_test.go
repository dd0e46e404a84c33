package diff_test

import (
	"math"
	"slices"

	"factotum/api"
	"factotum/task"
)

// What the chapter tells, its words one by one, Id by Id: slow, and without a map from Ids to parts.

// first is the first of l with this Id.
func first[T any](l []T, id uint64, idOf func(T) uint64) (T, bool) {
	for _, x := range l {
		if idOf(x) == id {
			return x, true
		}
	}
	var none T
	return none, false
}

func idOfList(l api.List) uint64 { return l.Id }

func idOfTask(x api.Task) uint64 { return x.Id }

// ids are the Ids of all these, rising, each once.
func ids[T any](idOf func(T) uint64, gone []uint64, all ...[]T) []uint64 {
	l := slices.Clone(gone)
	for _, m := range all {
		for _, x := range m {
			l = append(l, idOf(x))
		}
	}
	slices.Sort(l)
	return slices.Compact(l)
}

// alikeFloats: one NaN, one nought.
func alikeFloats(f, g float64) bool { return f == g || f != f && g != g }

func alikeTasks(x, y api.Task) bool {
	return x.Id == y.Id && x.List == y.List && x.Title == y.Title && x.Done == y.Done &&
		alikeFloats(x.Rank, y.Rank) && alikeFloats(x.Est, y.Est) && slices.Equal(x.Tags, y.Tags)
}

// wordsOf is what P12.1 tells of Of.
func wordsOf(a, b api.State) api.Patch {
	a, b = task.Canon(a), task.Canon(b)
	var p api.Patch
	for _, id := range ids(idOfList, nil, a.Lists, b.Lists) {
		x, inA := first(a.Lists, id, idOfList)
		y, inB := first(b.Lists, id, idOfList)
		if inA && !inB {
			p.GoneLists = append(p.GoneLists, id)
		}
		if inB && (!inA || x.Name != y.Name) {
			p.Lists = append(p.Lists, y)
		}
	}
	for _, id := range ids(idOfTask, nil, a.Tasks, b.Tasks) {
		x, inA := first(a.Tasks, id, idOfTask)
		y, inB := first(b.Tasks, id, idOfTask)
		if inA && !inB {
			p.GoneTasks = append(p.GoneTasks, id)
		}
		if inB && (!inA || !alikeTasks(x, y)) {
			p.Tasks = append(p.Tasks, y)
		}
	}
	return p
}

// wordsApplied is what P12.2 tells of the parts of one kind: those that are there then, and whether all that is Gone was there.
func wordsApplied[T any](l, parts []T, gone []uint64, idOf func(T) uint64) ([]T, bool) {
	l = slices.Clone(l)
	for _, id := range gone {
		at := slices.IndexFunc(l, func(x T) bool { return idOf(x) == id })
		if at < 0 {
			return nil, false
		}
		l = slices.Delete(l, at, at+1)
	}
	var n []T
	for _, id := range ids(idOf, nil, l, parts) {
		if x, is := first(parts, id, idOf); is {
			n = append(n, x)
		} else {
			x, _ := first(l, id, idOf)
			n = append(n, x)
		}
	}
	return n, true
}

// wordsApply is what P12.2 tells of Apply.
func wordsApply(s api.State, p api.Patch) (api.State, api.Errno) {
	s = task.Canon(s)
	lists, is := wordsApplied(s.Lists, p.Lists, p.GoneLists, idOfList)
	if !is {
		return api.State{}, api.ErrPatch
	}
	tasks, is := wordsApplied(s.Tasks, p.Tasks, p.GoneTasks, idOfTask)
	if !is {
		return api.State{}, api.ErrPatch
	}
	n := api.State{Lists: lists, Tasks: tasks}
	if e := task.Right(n); e != api.OK {
		return api.State{}, e
	}
	return n, api.OK
}

// wordsJoined is what P12.3 tells of the parts of one kind.
func wordsJoined[T any](p, q []T, goneP, goneQ []uint64, idOf func(T) uint64) (parts []T, gone []uint64) {
	for _, id := range ids(idOf, slices.Concat(goneP, goneQ), p, q) {
		inP, isP := first(p, id, idOf)
		inQ, isQ := first(q, id, idOf)
		switch {
		case isQ:
			parts = append(parts, inQ)
		case slices.Contains(goneQ, id):
			gone = append(gone, id)
		case isP:
			parts = append(parts, inP)
		default:
			gone = append(gone, id)
		}
	}
	return parts, gone
}

// wordsJoin is what P12.3 tells of Join.
func wordsJoin(p, q api.Patch) api.Patch {
	var n api.Patch
	n.Lists, n.GoneLists = wordsJoined(p.Lists, q.Lists, p.GoneLists, q.GoneLists, idOfList)
	n.Tasks, n.GoneTasks = wordsJoined(p.Tasks, q.Tasks, p.GoneTasks, q.GoneTasks, idOfTask)
	return n
}

// someIds are few, so that states and patches have many of them in common.
func someIds() []uint64 {
	l := []uint64{greatest, greatest - 1, 1 << 63, 1<<63 - 1, 1 << 32, math.MaxUint32, 256, 255}
	for i := range uint64(16) {
		l = append(l, i+1)
	}
	return l
}

// madeUpList may be in a Right state; madeUpTask may, where its list is there.
func madeUpList(r func(n int) int, id uint64) api.List {
	return api.List{Id: id, Name: oneOf(r, []string{"a", "b", "a b", "~"})}
}

func madeUpTask(r func(n int) int, id, list uint64) api.Task {
	x := api.Task{Id: id, List: list, Title: oneOf(r, []string{"a", "b"}), Done: r(3) == 0}
	x.Rank, x.Est = oneOf(r, []float64{0, 1, -1, least, inf}), oneOf(r, []float64{theNaN, 0, 1, -inf})
	for range r(mostTags) {
		x.Tags = append(x.Tags, oneOf(r, []string{"-", "0", "a", "b"}))
	}
	slices.Sort(x.Tags)
	x.Tags = slices.Compact(x.Tags)
	return x
}

// madeUpIds are some of l, rising.
func madeUpIds(r func(n int) int, l []uint64, most int) []uint64 {
	n := mixedUp(r, l)[:r(1+min(most, len(l)))]
	slices.Sort(n)
	return n
}

// madeUpRight is a Right state with these Ids.
func madeUpRight(r func(n int) int, ids []uint64) api.State {
	var s api.State
	for _, id := range madeUpIds(r, ids, mostLists) {
		s.Lists = append(s.Lists, madeUpList(r, id))
	}
	if len(s.Lists) == 0 {
		return s
	}
	for _, id := range madeUpIds(r, ids, mostTasks) {
		s.Tasks = append(s.Tasks, madeUpTask(r, id, oneOf(r, s.Lists).Id))
	}
	return s
}

// near is a Right state that has much in common with s, which is Right, too.
func near(r func(n int) int, s api.State, ids []uint64) api.State {
	other := madeUpRight(r, ids)
	var n api.State
	for _, id := range ids {
		x, inS := first(s.Lists, id, idOfList)
		y, inOther := first(other.Lists, id, idOfList)
		if inS && r(5) > 0 {
			n.Lists = append(n.Lists, x)
		} else if inOther {
			n.Lists = append(n.Lists, y)
		}
	}
	for _, id := range ids {
		x, inS := first(s.Tasks, id, idOfTask)
		y, inOther := first(other.Tasks, id, idOfTask)
		if !inS || inOther && r(5) == 0 {
			x = y
		}
		if _, is := first(n.Lists, x.List, idOfList); is && (inS || inOther) && r(5) > 0 {
			n.Tasks = append(n.Tasks, x)
		}
	}
	n = task.Canon(n)
	n.Lists, n.Tasks = n.Lists[:min(mostLists, len(n.Lists))], n.Tasks[:min(mostTasks, len(n.Tasks))]
	n.Tasks = slices.DeleteFunc(n.Tasks, func(x api.Task) bool {
		_, is := first(n.Lists, x.List, idOfList)
		return !is
	})
	return n
}

// anyIds are up to so many of l, some of them often.
func anyIds(r func(n int) int, l []uint64, most int) []uint64 {
	var n []uint64
	for range r(most + 1) {
		n = append(n, oneOf(r, l))
	}
	return n
}

// anyState may be wrong in each way.
func anyState(r func(n int) int, ids []uint64, most int) api.State {
	var s api.State
	for _, id := range anyIds(r, ids, most) {
		s.Lists = append(s.Lists, api.List{Id: id, Name: oneOf(r, []string{"a", "b", "", "\xff\n", "a b"})})
	}
	floats := append(append(numbers(), unclean()...), theNaN)
	for _, id := range anyIds(r, ids, most) {
		x := api.Task{Id: id, List: oneOf(r, ids), Title: oneOf(r, []string{"a", "b", "", "\x00"}), Done: r(2) == 0}
		x.Rank, x.Est = oneOf(r, floats), oneOf(r, floats)
		for range r(7) {
			x.Tags = append(x.Tags, oneOf(r, []string{"-", "b", "a", "", "A"}))
		}
		s.Tasks = append(s.Tasks, x)
	}
	return s
}

// anyPatch may be wrong in each way.
func anyPatch(r func(n int) int, ids []uint64, most int) api.Patch {
	s := anyState(r, ids, most)
	return api.Patch{Lists: s.Lists, Tasks: s.Tasks, GoneLists: anyIds(r, ids, most), GoneTasks: anyIds(r, ids, most)}
}
