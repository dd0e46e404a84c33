package mutate_test

import (
	"fmt"
	"math"
	"slices"
	"strings"
	"testing"

	"factotum/api"
	"factotum/mutate"
	"factotum/task"
)

const (
	mostLists = 20
	mostTasks = 60
	mostTitle = 60
	mostTags  = 4
	mostTag   = 16
	least     = math.SmallestNonzeroFloat64
	greatest  = math.MaxUint64
)

var (
	inf       = math.Inf(1)
	minusZero = math.Copysign(0, -1)
	theNaN    = math.Float64frombits(0x7ff8000000000001)
)

// numbers are floats that are Canon and no NaNs.
func numbers() []float64 {
	return []float64{0, 1, -1, 2.5, -2.5, 0.1, 61, least, -least, math.MaxFloat64, -math.MaxFloat64, inf, -inf}
}

// unclean are floats that aren't Canon.
func unclean() []float64 {
	l := []float64{minusZero}
	for _, b := range []uint64{
		0x7ff8000000000000, 0x7ff8000000000002, 0x7ff0000000000001, 0x7fffffffffffffff,
		0xfff8000000000001, 0xfff8000000000000, 0xfff0000000000001, 0xffffffffffffffff,
	} {
		l = append(l, math.Float64frombits(b))
	}
	return l
}

// kinds are all that there are.
func kinds() []int {
	return []int{
		api.MutList, api.MutDrop, api.MutMake, api.MutEdit, api.MutDone, api.MutMove, api.MutRank,
		api.MutEst, api.MutTag, api.MutUntag, api.MutDelete, api.MutClear, api.MutSpread,
	}
}

// noKinds are none of them; some would be one in fewer bits.
func noKinds() []int {
	l := []int{math.MinInt, math.MaxInt, math.MinInt + 3, 1<<8 + 3, 1<<16 + 3, 1<<32 + 3, -1<<32 + 3}
	for k := -20; k <= 0; k++ {
		l = append(l, k)
	}
	for k := 14; k <= 300; k++ {
		l = append(l, k)
	}
	return l
}

// bits are a float's, with the float: they tell noughts and NaNs apart.
func bits(f float64) string { return fmt.Sprintf("%v(%x)", f, math.Float64bits(f)) }

func toldMut(m api.Mut) string {
	text := fmt.Sprintf("%q", m.Text)
	if len(text) > 200 {
		text = fmt.Sprintf("%s.. of %d bytes", text[:200], len(m.Text))
	}
	return fmt.Sprintf("Kind %d, Id %d, List %d, Text %s, F %s, Flag %t", m.Kind, m.Id, m.List, text, bits(m.F), m.Flag)
}

// toldTask is all of a task.
func toldTask(t api.Task) string {
	return fmt.Sprintf("task %d of %d %q %t %s %s %q", t.Id, t.List, t.Title, t.Done, bits(t.Rank), bits(t.Est), t.Tags)
}

// told is all of a state.
func told(s api.State) string {
	var b strings.Builder
	for _, l := range s.Lists {
		fmt.Fprintf(&b, "list %d %q; ", l.Id, l.Name)
	}
	for _, t := range s.Tasks {
		b.WriteString(toldTask(t) + "; ")
	}
	return b.String()
}

// wide is s with its lists as long as there is room for.
func wide(s api.State) api.State {
	w := api.State{Lists: s.Lists[:cap(s.Lists)], Tasks: slices.Clone(s.Tasks[:cap(s.Tasks)])}
	for i, t := range w.Tasks {
		w.Tasks[i].Tags = t.Tags[:cap(t.Tags)]
	}
	return w
}

// behind is a copy of l with x behind it, and no room behind that.
func behind[T any](l []T, x T) []T {
	n := len(l)
	return append(append(make([]T, 0, n+1), l...), x)[: n : n+1]
}

// roomy is s in memory of its own, with something behind each of its lists.
func roomy(s api.State) api.State {
	r := api.State{Lists: behind(s.Lists, api.List{Id: 77, Name: "behind"}), Tasks: behind(s.Tasks, api.Task{Id: 78, List: 2, Title: "behind"})}
	for i, t := range r.Tasks {
		r.Tasks[i].Tags = behind(t.Tags, "behind")
	}
	return r
}

// spoil changes all that a caller may change of s, as far as there is room.
func spoil(s api.State) {
	for i := range s.Lists[:cap(s.Lists)] {
		s.Lists[:cap(s.Lists)][i] = api.List{Id: 99, Name: "spoilt"}
	}
	for i, t := range s.Tasks[:cap(s.Tasks)] {
		for j := range t.Tags[:cap(t.Tags)] {
			t.Tags[:cap(t.Tags)][j] = "spoilt"
		}
		s.Tasks[:cap(s.Tasks)][i] = api.Task{Id: 99, List: 99, Title: "spoilt", Done: true, Rank: 99, Est: 99, Tags: []string{"spoilt"}}
	}
}

// mustTell asks what Apply tells of s, and of s with room behind its lists, and that both stay as they were.
func mustTell(t *testing.T, what string, s api.State, m api.Mut, want api.State, err api.Errno) {
	t.Helper()
	for _, s := range []api.State{s, roomy(s)} {
		was := told(wide(s))
		got, e := mutate.Apply(s, m)
		if e != err || told(got) != told(want) {
			t.Fatalf("%s: %s: %d,\n%s, not %d,\n%s; it was\n%s", what, toldMut(m), e, told(got), err, told(want), told(s))
		}
		if is := told(wide(s)); is != was {
			t.Fatalf("%s: %s: the state that was handed in is\n%s, not\n%s", what, toldMut(m), is, was)
		}
	}
}

// mustApply asks that Apply tells this state, which is Right.
func mustApply(t *testing.T, what string, s api.State, m api.Mut, want api.State) {
	t.Helper()
	mustTell(t, what, s, m, want, api.OK)
	if e := task.Right(want); e != api.OK {
		t.Fatalf("%s: %s: what is asked for isn't Right: %d", what, toldMut(m), e)
	}
}

// mustRefuse asks that Apply tells this error, and a state of nothing.
func mustRefuse(t *testing.T, what string, s api.State, m api.Mut, err api.Errno) {
	t.Helper()
	mustTell(t, what, s, m, api.State{}, err)
}

// mixed is a Right state of three lists, the second of them without tasks, and with something in each field.
func mixed() api.State {
	return api.State{
		Lists: []api.List{{Id: 2, Name: "food"}, {Id: 5, Name: "none"}, {Id: 9, Name: "work"}},
		Tasks: []api.Task{
			{Id: 3, List: 9, Title: "write", Rank: 1, Est: theNaN, Tags: []string{"b", "d"}},
			{Id: 4, List: 2, Title: "eat", Done: true, Rank: 2, Est: 2, Tags: []string{"b"}},
			{Id: 6, List: 9, Title: "read", Done: true, Rank: -inf, Est: 0, Tags: []string{"b", "d", "f"}},
			{Id: 7, List: 2, Title: "drink", Rank: -1, Est: 1, Tags: []string{"-", "9", "m", "zz"}},
			{Id: 8, List: 2, Title: "eat", Done: true, Rank: 2, Est: inf},
			{Id: 300, List: 9, Title: "send", Rank: 0.5, Est: theNaN, Tags: []string{"home"}},
			{Id: greatest, List: 2, Title: "wash", Rank: 0, Est: theNaN},
		},
	}
}

// without is mixed without the lists and the tasks of these Ids.
func without(lists, tasks []uint64) api.State {
	s := mixed()
	s.Lists = slices.DeleteFunc(s.Lists, func(l api.List) bool { return slices.Contains(lists, l.Id) })
	s.Tasks = slices.DeleteFunc(s.Tasks, func(x api.Task) bool { return slices.Contains(tasks, x.Id) })
	return s
}

// but is s with something changed in one of its tasks; s stays as it is.
func but(s api.State, id uint64, change func(x *api.Task)) api.State {
	s.Tasks = slices.Clone(s.Tasks)
	change(&s.Tasks[slices.IndexFunc(s.Tasks, func(x api.Task) bool { return x.Id == id })])
	return s
}

// one is a state of one list and one task of it.
func one() api.State {
	return api.State{
		Lists: []api.List{{Id: 2, Name: "l"}},
		Tasks: []api.Task{{Id: 3, List: 2, Title: "a", Rank: 4, Est: theNaN}},
	}
}

// filled has so many lists, the Ids 10, 20, 30, .., and so many tasks with so many Tags each, of the first list, the Ids 10, 20, 30, .., too.
func filled(lists, tasks, tags int) api.State {
	var s api.State
	for i := range lists {
		s.Lists = append(s.Lists, api.List{Id: uint64(10 * (i + 1)), Name: "l"})
	}
	for i := range tasks {
		x := api.Task{Id: uint64(10 * (i + 1)), List: 10, Title: "t", Done: i%2 == 1, Rank: float64(-i), Est: 1}
		for j := range tags {
			x.Tags = append(x.Tags, string(rune('b'+2*j)))
		}
		s.Tasks = append(s.Tasks, x)
	}
	return s
}

// random tells numbers below n, the same ones each time.
func random(seed uint64) func(n int) int {
	return func(n int) int {
		seed = seed*6364136223846793005 + 1442695040888963407
		return int(seed>>33) % n
	}
}

// oneOf is one of l.
func oneOf[T any](r func(n int) int, l []T) T { return l[r(len(l))] }
