package diff_test

import (
	"slices"
	"strings"
	"testing"

	"factotum/api"
	"factotum/diff"
	"factotum/task"
)

// oddStates are of any kind: nothing, noughts, too much, wrong in each field.
func oddStates() []api.State {
	long := strings.Repeat("\xff", 1000)
	l := []api.State{
		{}, {Lists: []api.List{}, Tasks: []api.Task{}}, {Lists: make([]api.List, 1)}, {Tasks: make([]api.Task, 1)},
		{Lists: make([]api.List, 30), Tasks: make([]api.Task, 90)},
		{Lists: []api.List{{Id: greatest, Name: long}}, Tasks: []api.Task{{Id: greatest, List: greatest, Title: long, Tags: []string{long, "", long}}}},
		{Tasks: []api.Task{{Id: 3, List: 2, Title: "t", Tags: make([]string, 300)}}},
		mixed(), turnedRound(mixed()), filled(mostLists, mostTasks), filled(100, 300),
	}
	for _, f := range append(unclean(), theNaN) {
		l = append(l, api.State{Lists: mixed().Lists, Tasks: []api.Task{{Id: 3, List: 2, Title: "t", Rank: f, Est: f}, {Id: 3, Rank: f}, {Id: 1, Est: f}}})
	}
	return l
}

// oddPatches are of the odd states, two by two.
func oddPatches() []api.Patch {
	var l []api.Patch
	gone := [][]uint64{nil, {}, {0}, {0, 0}, {3, 3}, {7}, {greatest, 0, 1 << 63}, slices.Repeat([]uint64{2, 300}, 100)}
	for i, s := range oddStates() {
		l = append(l, api.Patch{Lists: s.Lists, Tasks: s.Tasks, GoneLists: gone[i%len(gone)], GoneTasks: gone[(i+3)%len(gone)]})
		l = append(l, api.Patch{Lists: s.Lists, Tasks: s.Tasks})
	}
	for _, g := range gone {
		l = append(l, api.Patch{GoneLists: g}, api.Patch{GoneTasks: g}, api.Patch{GoneLists: g, GoneTasks: g})
	}
	return l
}

// P1, P4: no call panics, whatever is handed in, and what each tells is what its words tell.
func TestAnyArguments(t *testing.T) {
	for _, a := range oddStates() {
		for _, b := range oddStates() {
			if got, want := toldPatch(diff.Of(a, b)), toldPatch(wordsOf(a, b)); got != want {
				t.Fatalf("Of\n%.3000s and\n%.3000s:\n%.3000s, not\n%.3000s", told(a), told(b), got, want)
			}
		}
		for _, p := range oddPatches() {
			got, e := diff.Apply(a, p)
			want, err := wordsApply(a, p)
			if e != err || told(got) != told(want) {
				t.Fatalf("Apply to\n%.3000s of\n%.3000s: %d,\n%.3000s, not %d,\n%.3000s", told(a), toldPatch(p), e, told(got), err, told(want))
			}
		}
	}
	for _, p := range oddPatches() {
		mustHave(t, "odd", p, len(p.Lists)+len(p.Tasks)+len(p.GoneLists)+len(p.GoneTasks))
		for _, q := range oddPatches() {
			if got, want := toldPatch(diff.Join(p, q)), toldPatch(wordsJoin(p, q)); got != want {
				t.Fatalf("Join of\n%.3000s and\n%.3000s:\n%.3000s, not\n%.3000s", toldPatch(p), toldPatch(q), got, want)
			}
		}
	}
}

// P2: tasks that share their Tags with each other, in what is handed in, don't in what is told.
func TestTagsAreNotShared(t *testing.T) {
	tags := []string{"a", "b", "c"}
	s := api.State{Lists: []api.List{{Id: 2, Name: "l"}}}
	for i := range uint64(5) {
		s.Tasks = append(s.Tasks, api.Task{Id: i + 1, List: 2, Title: "t", Tags: tags[:2]})
	}
	p := api.Patch{Lists: s.Lists, Tasks: s.Tasks}
	applied, _ := diff.Apply(api.State{}, p)
	kept, _ := diff.Apply(s, api.Patch{})
	placed, _ := diff.Apply(s, api.Patch{Tasks: s.Tasks[3:]})
	for what, l := range map[string][]api.Task{
		"Of": diff.Of(api.State{}, s).Tasks, "Apply": applied.Tasks, "Apply of nothing": kept.Tasks, "Apply of some": placed.Tasks,
		"Join": diff.Join(p, api.Patch{}).Tasks, "Join behind": diff.Join(api.Patch{}, p).Tasks, "Join of two": diff.Join(p, p).Tasks,
	} {
		if len(l) != 5 {
			t.Fatalf("%s: %d tasks", what, len(l))
		}
		for i := range l {
			l[i].Tags[0] = string(rune('m' + i))
			_ = append(l[i].Tags, "z")
		}
		for i := range l {
			if want := []string{string(rune('m' + i)), "b"}; !slices.Equal(l[i].Tags, want) {
				t.Errorf("%s: the Tags of task %d are %q, not %q", what, i, l[i].Tags, want)
			}
		}
	}
	if !slices.Equal(tags, []string{"a", "b", "c"}) {
		t.Errorf("what was handed in is %q", tags)
	}
}

// P2: what a caller changes of what was handed in doesn't change what was told.
func TestWhatIsToldStays(t *testing.T) {
	a, b := mixed(), but(turnedRound(mixed()), func(s *api.State) { s.Lists[0].Name, s.Tasks[2].Title, s.Tasks[4].Id = "new", "new", 8 })
	p, q := diff.Of(a, b), diff.Of(b, filled(2, 3))
	want := []string{toldPatch(diff.Of(a, b)), toldPatch(diff.Join(p, q)), toldPatch(diff.Join(q, p))}
	s, e := diff.Apply(a, p)
	if e != api.OK || told(s) != told(task.Canon(b)) {
		t.Fatalf("Apply: %d, %s", e, told(s))
	}
	of, joined, turned := diff.Of(a, b), diff.Join(p, q), diff.Join(q, p)
	spoil(a)
	spoil(b)
	got := []string{toldPatch(of), toldPatch(joined), toldPatch(turned)}
	spoilPatch(p)
	spoilPatch(q)
	got = append(got, toldPatch(of), toldPatch(joined), toldPatch(turned))
	if !slices.Equal(got, append(want, want...)) {
		t.Fatalf("%q, not %q", got, want)
	}
	b = but(turnedRound(mixed()), func(s *api.State) { s.Lists[0].Name, s.Tasks[2].Title, s.Tasks[4].Id = "new", "new", 8 })
	if told(s) != told(task.Canon(b)) {
		t.Fatalf("what Apply told is %s, not %s", told(s), told(task.Canon(b)))
	}
}

// P3: the same arguments, the same answers, however often.
func TestTheSameAnswers(t *testing.T) {
	r := random(9)
	for range 60 {
		a, b := anyState(r, someIds(), 40), anyState(r, someIds(), 40)
		p, q := anyPatch(r, someIds(), 40), anyPatch(r, someIds(), 40)
		right := madeUpRight(r, someIds())
		turn := diff.Of(right, near(r, right, someIds()))
		of, joined := toldPatch(diff.Of(a, b)), toldPatch(diff.Join(p, q))
		x, _ := diff.Apply(right, turn)
		for range 20 {
			y, _ := diff.Apply(right, turn)
			if toldPatch(diff.Of(a, b)) != of || toldPatch(diff.Join(p, q)) != joined || told(y) != told(x) {
				t.Fatal("another answer to the same arguments")
			}
		}
	}
}

// Example 1 of the chapter: of a state and the same with one task more.
func TestExample(t *testing.T) {
	s := mixed()
	more := but(s, func(s *api.State) { s.Tasks = append(s.Tasks, api.Task{Id: 5, List: 7, Title: "more"}) })
	if n := diff.Size(diff.Of(s, more)); n != 1 {
		t.Fatalf("Size %d, not 1", n)
	}
}
