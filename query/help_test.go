package query_test

import (
	"fmt"
	"math"
	"slices"
	"strings"
	"testing"

	"factotum/api"
	"factotum/query"
)

const (
	least    = math.SmallestNonzeroFloat64
	most     = math.MaxFloat64
	greatest = math.MaxUint64
)

var (
	inf       = math.Inf(1)
	minusZero = math.Copysign(0, -1)
	theNaN    = math.Float64frombits(0x7ff8000000000001)
)

// nans are NaNs of unlike bits; the first one alone is Canon.
func nans() []float64 {
	l := []float64{theNaN}
	for _, b := range []uint64{0x7ff8000000000000, 0x7ff0000000000001, 0x7fffffffffffffff, 0xfff8000000000001, 0xfff0000000000002, 0xffffffffffffffff} {
		l = append(l, math.Float64frombits(b))
	}
	return l
}

// numbers are floats that are no NaNs, rising, but for the two noughts, which are alike.
func numbers() []float64 {
	return []float64{-inf, -most, -2, -1, -least, minusZero, 0, least, 2 * least, 0.1, 1, math.Nextafter(1, 2), 2, most, inf}
}

// floats are of all kinds.
func floats() []float64 { return append(nans(), numbers()...) }

func bits(f float64) string { return fmt.Sprintf("%v(%x)", f, math.Float64bits(f)) }

// toldTask is all of a task, its floats by their bits.
func toldTask(t api.Task) string {
	return fmt.Sprintf("%d of %d %q %t %s %s %q", t.Id, t.List, t.Title, t.Done, bits(t.Rank), bits(t.Est), t.Tags)
}

func toldTasks(l []api.Task) string {
	b := make([]string, len(l))
	for i, t := range l {
		b[i] = toldTask(t)
	}
	return strings.Join(b, "; ")
}

func told(s api.State) string {
	b := ""
	for _, l := range s.Lists {
		b += fmt.Sprintf("%d %q; ", l.Id, l.Name)
	}
	return b + "tasks: " + toldTasks(s.Tasks)
}

func toldTotals(n api.Totals) string {
	return fmt.Sprintf("%d, %d done, %d known, %s, %s, %s", n.Count, n.Done, n.Known, bits(n.Sum), bits(n.Least), bits(n.Most))
}

// wideTasks are l and what lies behind it, with what lies behind their Tags.
func wideTasks(l []api.Task) []api.Task {
	l = slices.Clone(l[:cap(l)])
	for i, t := range l {
		l[i].Tags = t.Tags[:cap(t.Tags)]
	}
	return l
}

func wide(s api.State) api.State {
	return api.State{Lists: s.Lists[:cap(s.Lists)], Tasks: wideTasks(s.Tasks)}
}

// behind is a copy of l with x behind it, and no room behind that.
func behind[T any](l []T, x T) []T {
	n := len(l)
	return append(append(make([]T, 0, n+1), l...), x)[: n : n+1]
}

// roomy is s in memory of its own, with something behind each of its lists: a list 78, a task of it, a Tag.
func roomy(s api.State) api.State {
	r := api.State{Lists: behind(s.Lists, api.List{Id: 78, Name: "behind"}), Tasks: behind(s.Tasks, api.Task{Id: 77, List: 2, Title: "behind"})}
	for i, t := range r.Tasks {
		r.Tasks[i].Tags = behind(t.Tags, "behind")
	}
	return r
}

// spoilTasks changes all that a caller may change of l, as far as there is room.
func spoilTasks(l []api.Task) {
	l = l[:cap(l)]
	for i, t := range l {
		for j := range t.Tags[:cap(t.Tags)] {
			t.Tags[:cap(t.Tags)][j] = "spoilt"
		}
		l[i] = api.Task{Id: 99, List: 99, Title: "spoilt", Done: true, Rank: 99, Est: 99, Tags: []string{"spoilt"}}
	}
}

func spoil(s api.State) {
	for i := range s.Lists[:cap(s.Lists)] {
		s.Lists[:cap(s.Lists)][i] = api.List{Id: 99, Name: "spoilt"}
	}
	spoilTasks(s.Tasks)
}

// mustHold asks what Holds tells, also where there is room behind the Tags, and that the task stays as it was.
func mustHold(t *testing.T, what string, x api.Task, q api.Query, want bool) {
	t.Helper()
	for _, x := range []api.Task{x, roomy(api.State{Tasks: []api.Task{x}}).Tasks[0]} {
		was := toldTasks(wideTasks([]api.Task{x}))
		if got := query.Holds(x, q); got != want {
			t.Fatalf("%s: Holds of %s, %+v: %t", what, toldTask(x), q, got)
		}
		if is := toldTasks(wideTasks([]api.Task{x})); is != was {
			t.Fatalf("%s: the task that was handed in is %s, not %s", what, is, was)
		}
	}
}

// nothingBehind asks that behind an answer's lists there is nothing of anybody's.
func nothingBehind(t *testing.T, what string, l []api.Task) {
	t.Helper()
	for _, x := range l[len(l):cap(l)] {
		if toldTask(x) != toldTask(api.Task{}) {
			t.Fatalf("%s: behind the answer lies %s", what, toldTask(x))
		}
	}
	for _, x := range l {
		for _, tag := range x.Tags[len(x.Tags):cap(x.Tags)] {
			if tag != "" {
				t.Fatalf("%s: behind the Tags of %s lies %q", what, toldTask(x), tag)
			}
		}
	}
}

// mustTell asks what Run tells, also where there is room behind the lists of s, and that nothing is shared and s stays as it was.
func mustTell(t *testing.T, what string, s api.State, q api.Query, want []api.Task, err api.Errno) {
	t.Helper()
	for _, s := range []api.State{s, roomy(s)} {
		was := told(wide(s))
		got, e := query.Run(s, q)
		again, _ := query.Run(s, q)
		if e != err || toldTasks(got) != toldTasks(want) {
			t.Fatalf("%s: Run of\n%s,\n%+v:\n%s, %d, not\n%s, %d", what, told(s), q, toldTasks(got), e, toldTasks(want), err)
		}
		nothingBehind(t, what, got)
		spoilTasks(got)
		if toldTasks(again) != toldTasks(want) {
			t.Fatalf("%s: Run of\n%s,\n%+v: two answers share memory", what, told(s), q)
		}
		if is := told(wide(s)); is != was {
			t.Fatalf("%s: Run: the state that was handed in is\n%s, not\n%s", what, is, was)
		}
	}
}

// mustRun asks that Run tells the tasks of s that stand at these places.
func mustRun(t *testing.T, what string, s api.State, q api.Query, places ...int) {
	t.Helper()
	mustTell(t, what, s, q, at(s, places...), api.OK)
}

// at are the tasks of s at these places.
func at(s api.State, places ...int) []api.Task {
	var l []api.Task
	for _, i := range places {
		l = append(l, s.Tasks[i])
	}
	return l
}

// mustSum asks what Sums tells, to the bit, also where there is room behind the lists of s, and that s stays as it was.
func mustSum(t *testing.T, what string, s api.State, q api.Query, want api.Totals, err api.Errno) {
	t.Helper()
	for _, s := range []api.State{s, roomy(s)} {
		was := told(wide(s))
		got, e := query.Sums(s, q)
		if e != err || toldTotals(got) != toldTotals(want) {
			t.Fatalf("%s: Sums of\n%s,\n%+v:\n%s, %d, not\n%s, %d", what, told(s), q, toldTotals(got), e, toldTotals(want), err)
		}
		if is := told(wide(s)); is != was {
			t.Fatalf("%s: Sums: the state that was handed in is\n%s, not\n%s", what, is, was)
		}
	}
}

// mustRefuse asks that Run and Sums tell this error, and nothing else.
func mustRefuse(t *testing.T, what string, s api.State, q api.Query, err api.Errno) {
	t.Helper()
	mustTell(t, what, s, q, nil, err)
	mustSum(t, what, s, q, api.Totals{}, err)
}

// mixed is a Right state of four lists, the second of them without tasks; some are alike in Rank, Title or Est.
func mixed() api.State {
	return api.State{
		Lists: []api.List{{Id: 2, Name: "food"}, {Id: 5, Name: "none"}, {Id: 9, Name: "work"}, {Id: greatest, Name: "last"}},
		Tasks: []api.Task{
			{Id: 3, List: 9, Title: "write", Rank: 1, Est: theNaN, Tags: []string{"b", "c"}},
			{Id: 4, List: 2, Title: "eat", Done: true, Rank: 2, Est: 2, Tags: []string{"a"}},
			{Id: 6, List: 9, Title: "read", Rank: -inf, Est: 0, Tags: []string{"a", "b", "c", "d"}},
			{Id: 7, List: 2, Title: "drink", Rank: -1, Est: 1, Tags: []string{"-", "b"}},
			{Id: 8, List: 2, Title: "eat", Rank: 2, Est: inf},
			{Id: 300, List: 9, Title: "send", Done: true, Rank: 0.5, Est: theNaN, Tags: []string{"bc"}},
			{Id: 1 << 40, List: greatest, Title: "eat more", Rank: -5, Est: 2},
			{Id: greatest, List: 2, Title: "wash", Done: true, Rank: 0, Est: -1, Tags: []string{"b"}},
		},
	}
}

// jumbled isn't Right: of some Ids there are two or three, one is 0, some lists aren't there, and neither order nor floats nor Tags are as they should be.
func jumbled() api.State {
	return api.State{
		Lists: []api.List{{Id: 9, Name: "second"}, {Id: 2, Name: ""}, {Id: 9, Name: "once more"}, {Id: 0, Name: "nought"}},
		Tasks: []api.Task{
			{Id: 8, List: 2, Title: "", Rank: 5, Est: nans()[5], Tags: []string{"b", "a", "b"}},
			{Id: 3, List: 2, Title: "b", Done: true, Rank: minusZero, Est: minusZero},
			{Id: 8, List: 2, Title: "a", Rank: -5, Est: 4},
			{Id: 1, List: 2, Title: "b", Rank: 0, Est: 0, Tags: []string{""}},
			{Id: 6, List: 4, Title: "\xff", Rank: 7, Est: inf},
			{Id: 0, List: 2, Title: "a\x00", Rank: nans()[2], Est: 4, Tags: []string{"b", "b", "b", "b", "b"}},
			{Id: 5, List: 9, Title: "B", Done: true, Rank: nans()[3], Est: -inf, Tags: []string{"x", "a"}},
			{Id: 2, List: 0, Title: "a", Rank: theNaN, Est: theNaN},
			{Id: 5, List: 9, Title: "B", Rank: 1, Est: -inf},
			{Id: 8, List: 2, Title: "", Done: true, Rank: 5, Est: nans()[1]},
		},
	}
}

// random tells numbers below n, the same ones each time.
func random(seed uint64) func(n int) int {
	return func(n int) int {
		seed = seed*6364136223846793005 + 1442695040888963407
		return int(seed>>33) % n
	}
}

// oneOf is one of l.
func oneOf[T any](r func(n int) int, l []T) T { return l[r(len(l))] }
