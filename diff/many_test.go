package diff_test

import (
	"slices"
	"testing"

	"factotum/api"
	"factotum/diff"
	"factotum/task"
)

// mustBeRight asks that what a test made up is Right.
func mustBeRight(t *testing.T, all ...api.State) {
	t.Helper()
	for _, s := range all {
		if e := task.Right(s); e != api.OK {
			t.Fatalf("a made-up state isn't Right: %d: %s", e, told(s))
		}
	}
}

// mustTurn asks that Apply of what Of tells turns a into b.
func mustTurn(t *testing.T, a, b api.State) {
	t.Helper()
	p := diff.Of(a, b)
	mustHave(t, "turns", p, len(p.Lists)+len(p.Tasks)+len(p.GoneLists)+len(p.GoneTasks))
	mustApply(t, "turns", a, p, b)
	if (diff.Size(p) == 0) != (told(a) == told(b)) {
		t.Fatalf("a patch of Size %d from\n%s to\n%s", diff.Size(p), told(a), told(b))
	}
	if got, _ := diff.Apply(a, p); !task.Same(got, b) {
		t.Fatalf("from\n%s to\n%s:\n%s", told(a), told(b), told(got))
	}
}

// P12.1, P12.4: many made-up Right states, far from each other and near.
func TestManyTurn(t *testing.T) {
	r := random(5)
	sizes := map[int]int{}
	for range 700 {
		few := someIds()[:1+r(24)]
		a := madeUpRight(r, few)
		far, by := madeUpRight(r, few), near(r, a, few)
		mustBeRight(t, a, far, by)
		for _, b := range []api.State{far, by, {}, a} {
			mustOf(t, "made up", a, b, wordsOf(a, b))
			mustTurn(t, a, b)
			mustTurn(t, b, a)
			sizes[min(8, diff.Size(diff.Of(a, b)))]++
		}
		if n := diff.Size(diff.Of(a, a)); n != 0 {
			t.Fatalf("Of a state and itself has Size %d: %s", n, told(a))
		}
	}
	for n := range 9 {
		if sizes[n] < 10 {
			t.Errorf("%d patches of %d parts alone", sizes[n], n)
		}
	}
}

// P12.4: states at the bounds turn into each other, and into nothing.
func TestTurnAtBounds(t *testing.T) {
	full := filled(mostLists, mostTasks)
	other := but(full, func(s *api.State) {
		for i := range s.Lists {
			s.Lists[i].Id += 5
		}
		for i := range s.Tasks {
			s.Tasks[i].Id, s.Tasks[i].List = s.Tasks[i].Id+5, 15
		}
	})
	changed := but(full, func(s *api.State) {
		for i := range s.Tasks {
			s.Tasks[i].List, s.Tasks[i].Done = 20, true
		}
	})
	all := []api.State{{}, full, other, changed, mixed(), filled(1, mostTasks), filled(mostLists, 0)}
	mustBeRight(t, all...)
	for _, a := range all {
		for _, b := range all {
			mustTurn(t, a, b)
		}
	}
	mustHave(t, "all are others", diff.Of(full, other), 2*(mostLists+mostTasks))
	mustHave(t, "all tasks are changed", diff.Of(full, changed), mostTasks)
}

// brought tells whether each Id that b brought and c hasn't was in a, too: of l, m and n as the Ids of a, b and c.
func brought(l, m, n []uint64) bool {
	return !slices.ContainsFunc(m, func(id uint64) bool { return !slices.Contains(n, id) && !slices.Contains(l, id) })
}

func listIds(s api.State) []uint64 { return ids(idOfList, nil, s.Lists) }

func taskIds(s api.State) []uint64 { return ids(idOfTask, nil, s.Tasks) }

// inOne tells whether P12.5 speaks of a, b and c.
func inOne(a, b, c api.State) bool {
	return brought(listIds(a), listIds(b), listIds(c)) && brought(taskIds(a), taskIds(b), taskIds(c))
}

// mustTurnInOne asks that Apply of the Join turns a into c, if what b brought stays; else that something Gone isn't there.
func mustTurnInOne(t *testing.T, a, b, c api.State) {
	t.Helper()
	p, q := diff.Of(a, b), diff.Of(b, c)
	j := diff.Join(p, q)
	if inOne(a, b, c) {
		mustApply(t, "in one", a, j, c)
	} else {
		mustRefuse(t, "not in one", a, j, api.ErrPatch)
	}
}

// P12.3, P12.5: many made-up Right states, three by three.
func TestManyInOne(t *testing.T) {
	r := random(6)
	found := map[bool]int{}
	for range 700 {
		few := someIds()[:1+r(24)]
		a := madeUpRight(r, few)
		b := near(r, a, few)
		c := near(r, b, few)
		if r(3) == 0 {
			c = madeUpRight(r, few)
		}
		mustBeRight(t, a, b, c)
		mustJoin(t, "made up", diff.Of(a, b), diff.Of(b, c), wordsJoin(diff.Of(a, b), diff.Of(b, c)))
		for _, x := range [][3]api.State{{a, b, c}, {a, b, a}, {a, b, b}, {a, a, b}, {a, c, b}, {c, a, b}, {a, {}, c}, {{}, a, b}, {a, b, {}}} {
			found[inOne(x[0], x[1], x[2])]++
			mustTurnInOne(t, x[0], x[1], x[2])
		}
	}
	if found[true] < 1500 || found[false] < 1500 {
		t.Errorf("in one %d times, not in one %d times", found[true], found[false])
	}
}

// P12.5: by hand, one list and one task each: as it is said, and where b brought what c hasn't.
func TestInOneByHand(t *testing.T) {
	l := []api.List{{Id: 2, Name: "l"}}
	with := func(titles ...string) api.State {
		s := api.State{Lists: l}
		for i, title := range titles {
			if title != "" {
				s.Tasks = append(s.Tasks, one(uint64(i+1), title))
			}
		}
		return s
	}
	for _, x := range []struct {
		a, b, c api.State
		may     bool
	}{
		{with("a"), with("b"), with("c"), true},
		{with("a"), with("b"), with("a"), true},
		{with("a"), with(), with("a"), true},
		{with("a"), with("", "b"), with("c", "d"), true},
		{with(), with("b"), with("b", "c"), true},
		{with("a"), with("a", "b"), with("", "b"), true},
		{with("a", "b"), with("c"), with(), true},
		{with(), with("b"), with(), false},
		{with("a"), with("a", "b"), with("a"), false},
		{with("a"), with("", "b"), with("c"), false},
		{api.State{}, api.State{Lists: l}, api.State{}, false},
	} {
		mustBeRight(t, x.a, x.b, x.c)
		if inOne(x.a, x.b, x.c) != x.may {
			t.Fatalf("the test's own words are wrong of\n%s,\n%s and\n%s", told(x.a), told(x.b), told(x.c))
		}
		mustTurnInOne(t, x.a, x.b, x.c)
	}
}

// P12.2: many made-up patches, right and wrong, of states of any kind.
func TestManyApplied(t *testing.T) {
	r := random(7)
	found := map[api.Errno]int{}
	for i := range 2500 {
		few := someIds()[:1+r(24)]
		s := madeUpRight(r, few)
		p := diff.Of(s, near(r, s, few))
		switch other := anyPatch(r, append(few[:len(few):len(few)], 0), 1+i%4); r(8) {
		case 0:
			s = anyState(r, few, 1+i%9)
		case 1:
			p = anyPatch(r, few, 1+i%9)
		case 2:
			p.GoneTasks = append(p.GoneTasks, other.GoneTasks...)
		case 3:
			p.GoneLists = append(p.GoneLists, other.GoneLists...)
		case 4:
			p.Tasks = append(p.Tasks, other.Tasks...)
		case 5:
			p.Tasks = append(other.Tasks, p.Tasks...)
		case 6:
			p.Lists = append(mixedUp(r, p.Lists), other.Lists...)
			p.Tasks = mixedUp(r, p.Tasks)
		}
		want, e := wordsApply(s, p)
		found[e]++
		mustTell(t, "made up", s, p, want, e)
	}
	for _, e := range []api.Errno{api.OK, api.ErrPatch, api.ErrState, api.ErrList, api.ErrTask, api.ErrText, api.ErrMany, api.ErrRank} {
		if found[e] < 5 {
			t.Errorf("error %d came %d times alone", e, found[e])
		}
	}
}

// madeUpPatch is one that may well be applied to s, with parts of other Ids, too, and in any order.
func madeUpPatch(r func(n int) int, s api.State, ids []uint64) api.Patch {
	p := diff.Of(s, near(r, s, ids))
	for _, id := range madeUpIds(r, ids, 2) {
		if len(s.Lists) > 0 && r(2) == 0 {
			p.Tasks = append(p.Tasks, madeUpTask(r, id, oneOf(r, s.Lists).Id))
		}
	}
	p.Lists, p.Tasks = mixedUp(r, p.Lists), mixedUp(r, p.Tasks)
	p.GoneLists, p.GoneTasks = mixedUp(r, p.GoneLists), mixedUp(r, p.GoneTasks)
	return p
}

// P12.3: what p and then q do, the Join does, where all that is Gone in it is there.
func TestJoinDoesWhatBothDo(t *testing.T) {
	r := random(8)
	done := 0
	for range 2500 {
		few := someIds()[:1+r(24)]
		a := madeUpRight(r, few)
		p := madeUpPatch(r, a, few)
		b, e := diff.Apply(a, p)
		if e != api.OK {
			continue
		}
		q := madeUpPatch(r, b, few)
		c, e := diff.Apply(b, q)
		if e != api.OK {
			continue
		}
		j := diff.Join(p, q)
		there := func(gone, ids []uint64) bool {
			return !slices.ContainsFunc(gone, func(id uint64) bool { return !slices.Contains(ids, id) })
		}
		if !there(j.GoneLists, listIds(a)) || !there(j.GoneTasks, taskIds(a)) {
			mustRefuse(t, "gone isn't there", a, j, api.ErrPatch)
			continue
		}
		done++
		mustApply(t, "both", a, j, c)
	}
	if done < 500 {
		t.Errorf("%d Joins alone were applied", done)
	}
}
