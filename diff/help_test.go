package diff_test

import (
	"fmt"
	"math"
	"slices"
	"strings"
	"testing"

	"factotum/api"
	"factotum/diff"
	"factotum/task"
)

const (
	mostLists = 20
	mostTasks = 60
	mostTitle = 60
	mostTags  = 4
	mostTag   = 16
	least     = math.SmallestNonzeroFloat64
	greatest  = math.MaxUint64
)

var (
	inf       = math.Inf(1)
	minusZero = math.Copysign(0, -1)
	theNaN    = math.Float64frombits(0x7ff8000000000001)
)

// numbers are floats that are Canon and no NaNs.
func numbers() []float64 {
	return []float64{0, 1, -1, 2.5, -2.5, 0.1, 61, least, -least, math.MaxFloat64, -math.MaxFloat64, inf, -inf}
}

// otherNaNs are NaNs that aren't Canon.
func otherNaNs() []float64 {
	var l []float64
	for _, b := range []uint64{
		0x7ff8000000000000, 0x7ff8000000000002, 0x7ff0000000000001, 0x7fffffffffffffff,
		0xfff8000000000001, 0xfff8000000000000, 0xfff0000000000001, 0xffffffffffffffff,
	} {
		l = append(l, math.Float64frombits(b))
	}
	return l
}

// unclean are floats that aren't Canon.
func unclean() []float64 { return append(otherNaNs(), minusZero) }

// bits are a float's, with the float: they tell noughts and NaNs apart.
func bits(f float64) string { return fmt.Sprintf("%v(%x)", f, math.Float64bits(f)) }

// toldTask is all of a task.
func toldTask(t api.Task) string {
	return fmt.Sprintf("task %d of %d %q %t %s %s %q", t.Id, t.List, t.Title, t.Done, bits(t.Rank), bits(t.Est), t.Tags)
}

// told is all of a state.
func told(s api.State) string {
	var b strings.Builder
	for _, l := range s.Lists {
		fmt.Fprintf(&b, "list %d %q; ", l.Id, l.Name)
	}
	for _, t := range s.Tasks {
		b.WriteString(toldTask(t) + "; ")
	}
	return b.String()
}

// toldPatch is all of a patch.
func toldPatch(p api.Patch) string {
	return told(api.State{Lists: p.Lists, Tasks: p.Tasks}) + fmt.Sprintf("lists gone %v, tasks gone %v", p.GoneLists, p.GoneTasks)
}

// wide is s with its lists as long as there is room for.
func wide(s api.State) api.State {
	w := api.State{Lists: s.Lists[:cap(s.Lists)], Tasks: slices.Clone(s.Tasks[:cap(s.Tasks)])}
	for i, t := range w.Tasks {
		w.Tasks[i].Tags = t.Tags[:cap(t.Tags)]
	}
	return w
}

func widePatch(p api.Patch) api.Patch {
	w := wide(api.State{Lists: p.Lists, Tasks: p.Tasks})
	return api.Patch{Lists: w.Lists, Tasks: w.Tasks, GoneLists: p.GoneLists[:cap(p.GoneLists)], GoneTasks: p.GoneTasks[:cap(p.GoneTasks)]}
}

// behind is a copy of l with x behind it, and no room behind that.
func behind[T any](l []T, x T) []T {
	n := len(l)
	return append(append(make([]T, 0, n+1), l...), x)[: n : n+1]
}

// roomy is s in memory of its own, with something behind each of its lists.
func roomy(s api.State) api.State {
	r := api.State{Lists: behind(s.Lists, api.List{Id: 77, Name: "behind"}), Tasks: behind(s.Tasks, api.Task{Id: 78, List: 2, Title: "behind"})}
	for i, t := range r.Tasks {
		r.Tasks[i].Tags = behind(t.Tags, "behind")
	}
	return r
}

func roomyPatch(p api.Patch) api.Patch {
	r := roomy(api.State{Lists: p.Lists, Tasks: p.Tasks})
	return api.Patch{Lists: r.Lists, Tasks: r.Tasks, GoneLists: behind(p.GoneLists, 2), GoneTasks: behind(p.GoneTasks, 3)}
}

// spoil changes all that a caller may change of s, as far as there is room.
func spoil(s api.State) {
	for i := range s.Lists[:cap(s.Lists)] {
		s.Lists[:cap(s.Lists)][i] = api.List{Id: 99, Name: "spoilt"}
	}
	for i, t := range s.Tasks[:cap(s.Tasks)] {
		for j := range t.Tags[:cap(t.Tags)] {
			t.Tags[:cap(t.Tags)][j] = "spoilt"
		}
		s.Tasks[:cap(s.Tasks)][i] = api.Task{Id: 99, List: 99, Title: "spoilt", Done: true, Rank: 99, Est: 99, Tags: []string{"spoilt"}}
	}
}

func spoilPatch(p api.Patch) {
	spoil(api.State{Lists: p.Lists, Tasks: p.Tasks})
	for _, l := range [][]uint64{p.GoneLists, p.GoneTasks} {
		for i := range l[:cap(l)] {
			l[:cap(l)][i] = 99
		}
	}
}

// mustOf asks what Of tells of a and b, also where there is room behind their lists, and that nothing is shared and both stay as they were.
func mustOf(t *testing.T, what string, a, b api.State, want api.Patch) {
	t.Helper()
	for _, room := range []bool{false, true} {
		a, b := a, b
		if room {
			a, b = roomy(a), roomy(b)
		}
		was := told(wide(a)) + "and " + told(wide(b))
		got, again := diff.Of(a, b), diff.Of(a, b)
		if toldPatch(got) != toldPatch(want) {
			t.Fatalf("%s: Of\n%s and\n%s:\n%s, not\n%s", what, told(a), told(b), toldPatch(got), toldPatch(want))
		}
		spoilPatch(got)
		if toldPatch(again) != toldPatch(want) {
			t.Fatalf("%s: Of\n%s and\n%s: two answers share memory", what, told(a), told(b))
		}
		if is := told(wide(a)) + "and " + told(wide(b)); is != was {
			t.Fatalf("%s: Of: what was handed in is\n%s, not\n%s", what, is, was)
		}
	}
}

// mustTell asks what Apply tells of s and p, also where there is room behind their lists, and that nothing is shared and both stay as they were.
func mustTell(t *testing.T, what string, s api.State, p api.Patch, want api.State, err api.Errno) {
	t.Helper()
	for _, room := range []bool{false, true} {
		s, p := s, p
		if room {
			s, p = roomy(s), roomyPatch(p)
		}
		was := told(wide(s)) + "and " + toldPatch(widePatch(p))
		got, e := diff.Apply(s, p)
		again, _ := diff.Apply(s, p)
		if e != err || told(got) != told(want) {
			t.Fatalf("%s: Apply to\n%s of\n%s: %d,\n%s, not %d,\n%s", what, told(s), toldPatch(p), e, told(got), err, told(want))
		}
		spoil(got)
		if told(again) != told(want) {
			t.Fatalf("%s: Apply to\n%s of\n%s: two answers share memory", what, told(s), toldPatch(p))
		}
		if is := told(wide(s)) + "and " + toldPatch(widePatch(p)); is != was {
			t.Fatalf("%s: Apply: what was handed in is\n%s, not\n%s", what, is, was)
		}
	}
}

// mustApply asks that Apply tells this state, which is Right.
func mustApply(t *testing.T, what string, s api.State, p api.Patch, want api.State) {
	t.Helper()
	mustTell(t, what, s, p, want, api.OK)
	if e := task.Right(want); e != api.OK {
		t.Fatalf("%s: what is asked for isn't Right: %d", what, e)
	}
}

// mustRefuse asks that Apply tells this error, and a state of nothing.
func mustRefuse(t *testing.T, what string, s api.State, p api.Patch, err api.Errno) {
	t.Helper()
	mustTell(t, what, s, p, api.State{}, err)
}

// mustJoin asks what Join tells of p and q, also where there is room behind their lists, and that nothing is shared and both stay as they were.
func mustJoin(t *testing.T, what string, p, q, want api.Patch) {
	t.Helper()
	for _, room := range []bool{false, true} {
		p, q := p, q
		if room {
			p, q = roomyPatch(p), roomyPatch(q)
		}
		was := toldPatch(widePatch(p)) + " and " + toldPatch(widePatch(q))
		got, again := diff.Join(p, q), diff.Join(p, q)
		if toldPatch(got) != toldPatch(want) {
			t.Fatalf("%s: Join of\n%s and\n%s:\n%s, not\n%s", what, toldPatch(p), toldPatch(q), toldPatch(got), toldPatch(want))
		}
		spoilPatch(got)
		if toldPatch(again) != toldPatch(want) {
			t.Fatalf("%s: Join of\n%s and\n%s: two answers share memory", what, toldPatch(p), toldPatch(q))
		}
		if is := toldPatch(widePatch(p)) + " and " + toldPatch(widePatch(q)); is != was {
			t.Fatalf("%s: Join: what was handed in is\n%s, not\n%s", what, is, was)
		}
	}
}

// mustHave asks for the Size of p, also where there is room behind its lists, and that p stays as it was.
func mustHave(t *testing.T, what string, p api.Patch, want int) {
	t.Helper()
	for _, p := range []api.Patch{p, roomyPatch(p)} {
		was := toldPatch(widePatch(p))
		if got := diff.Size(p); got != want {
			t.Fatalf("%s: Size of\n%s: %d, not %d", what, toldPatch(p), got, want)
		}
		if is := toldPatch(widePatch(p)); is != was {
			t.Fatalf("%s: Size: what was handed in is\n%s, not\n%s", what, is, was)
		}
	}
}

// mixed is a Right state of three lists, one of them without tasks, and with something in each field; a list and a task have one Id.
func mixed() api.State {
	return api.State{
		Lists: []api.List{{Id: 2, Name: "food"}, {Id: 7, Name: "none"}, {Id: 1 << 40, Name: "work"}},
		Tasks: []api.Task{
			{Id: 3, List: 1 << 40, Title: "write", Rank: 1, Est: theNaN, Tags: []string{"b", "d"}},
			{Id: 4, List: 2, Title: "eat", Done: true, Rank: 2, Est: 2, Tags: []string{"b"}},
			{Id: 7, List: 2, Title: "drink", Rank: -1, Est: 0, Tags: []string{"-", "9", "m", "zz"}},
			{Id: 300, List: 1 << 40, Title: "send", Rank: 0, Est: inf},
			{Id: greatest, List: 2, Title: "eat", Rank: -inf, Est: theNaN, Tags: []string{"home"}},
		},
	}
}

// but is s with something changed; s stays as it is.
func but(s api.State, change func(s *api.State)) api.State {
	c := api.State{Lists: slices.Clone(s.Lists), Tasks: slices.Clone(s.Tasks)}
	for i, x := range c.Tasks {
		c.Tasks[i].Tags = slices.Clone(x.Tags)
	}
	change(&c)
	return c
}

// filled has so many lists, the Ids 10, 20, 30, .., and so many tasks of the first list, the Ids 10, 20, 30, .., too.
func filled(lists, tasks int) api.State {
	var s api.State
	for i := range lists {
		s.Lists = append(s.Lists, api.List{Id: uint64(10 * (i + 1)), Name: "l"})
	}
	for i := range tasks {
		s.Tasks = append(s.Tasks, api.Task{Id: uint64(10 * (i + 1)), List: 10, Title: "t", Rank: float64(-i), Est: 1})
	}
	return s
}

// turnedRound is s with its lists and tasks the other way round.
func turnedRound(s api.State) api.State {
	return but(s, func(s *api.State) {
		slices.Reverse(s.Lists)
		slices.Reverse(s.Tasks)
	})
}

// random tells numbers below n, the same ones each time.
func random(seed uint64) func(n int) int {
	return func(n int) int {
		seed = seed*6364136223846793005 + 1442695040888963407
		return int(seed>>33) % n
	}
}

// oneOf is one of l.
func oneOf[T any](r func(n int) int, l []T) T { return l[r(len(l))] }

// mixedUp is l in another order.
func mixedUp[T any](r func(n int) int, l []T) []T {
	l = slices.Clone(l)
	for i := range l {
		j := i + r(len(l)-i)
		l[i], l[j] = l[j], l[i]
	}
	return l
}
