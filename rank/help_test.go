package rank_test

import (
	"fmt"
	"math"
	"slices"
	"strings"
	"testing"

	"factotum/api"
	"factotum/rank"
)

const (
	least    = math.SmallestNonzeroFloat64
	most     = math.MaxFloat64
	greatest = math.MaxUint64
)

var (
	inf       = math.Inf(1)
	minusZero = math.Copysign(0, -1)
	theNaN    = math.Float64frombits(0x7ff8000000000001)
	otherNaN  = math.Float64frombits(0xfff0000000000002)
)

// next is the number that follows f.
func next(f float64) float64 { return math.Nextafter(f, inf) }

// ranks are numbers of all kinds, some of them next to each other, and NaNs.
func ranks() []float64 {
	return []float64{
		theNaN, otherNaN, -inf, -most, -2, -1, -least, minusZero, 0, least, 2 * least, 1, next(1), next(next(1)), 2, most, inf,
	}
}

// less is flt.Less by the words of its chapter: -Inf is less than all but NaN, which is less than all.
func less(a, b float64) bool { return a < b || a != a && b == b }

// room: there is a number between the two.
func room(low, high float64) bool { return low < high && next(low) < high }

// toldTask is all of a task, its floats by their bits.
func toldTask(t api.Task) string {
	return fmt.Sprintf("%d %d %q %t %x %x %q", t.Id, t.List, t.Title, t.Done, math.Float64bits(t.Rank), math.Float64bits(t.Est), t.Tags)
}

func toldTasks(l []api.Task) string {
	b := make([]string, len(l))
	for i, t := range l {
		b[i] = toldTask(t)
	}
	return strings.Join(b, "; ")
}

func told(s api.State) string {
	b := ""
	for _, l := range s.Lists {
		b += fmt.Sprintf("%d %q; ", l.Id, l.Name)
	}
	return b + "tasks: " + toldTasks(s.Tasks)
}

// wideTasks are l, and what lies behind it, with what lies behind their Tags.
func wideTasks(l []api.Task) []api.Task {
	l = slices.Clone(l[:cap(l)])
	for i, t := range l {
		l[i].Tags = t.Tags[:cap(t.Tags)]
	}
	return l
}

func wide(s api.State) api.State {
	return api.State{Lists: s.Lists[:cap(s.Lists)], Tasks: wideTasks(s.Tasks)}
}

// behind is a copy of l with x behind it, and no room behind that.
func behind[T any](l []T, x T) []T {
	n := len(l)
	return append(append(make([]T, 0, n+1), l...), x)[: n : n+1]
}

// roomy is s in memory of its own, with something behind each of its lists: a task of list 2, too.
func roomy(s api.State) api.State {
	r := api.State{Lists: behind(s.Lists, api.List{Id: 77, Name: "behind"}), Tasks: behind(s.Tasks, api.Task{Id: 78, List: 2, Title: "behind"})}
	for i, t := range r.Tasks {
		r.Tasks[i].Tags = behind(t.Tags, "behind")
	}
	return r
}

// spoilTasks changes all that a caller may change of l, as far as there is room.
func spoilTasks(l []api.Task) {
	l = l[:cap(l)]
	for i, t := range l {
		for j := range t.Tags[:cap(t.Tags)] {
			t.Tags[:cap(t.Tags)][j] = "spoilt"
		}
		l[i] = api.Task{Id: 99, List: 99, Title: "spoilt", Done: true, Rank: 99, Est: 99, Tags: []string{"spoilt"}}
	}
}

func spoil(s api.State) {
	for i := range s.Lists[:cap(s.Lists)] {
		s.Lists[:cap(s.Lists)][i] = api.List{Id: 99, Name: "spoilt"}
	}
	spoilTasks(s.Tasks)
}

// mustKeep asks that a call leaves the state as it is, also behind its lists' lengths.
func mustKeep(t *testing.T, what string, s api.State, call func()) {
	t.Helper()
	was := told(wide(s))
	call()
	if is := told(wide(s)); is != was {
		t.Fatalf("%s: the state that was handed in is\n%s, not\n%s", what, is, was)
	}
}

// mustOrder asks what Order tells of a list.
func mustOrder(t *testing.T, what string, s api.State, list uint64, want []api.Task) {
	t.Helper()
	mustKeep(t, what, s, func() {
		if got := rank.Order(s, list); toldTasks(got) != toldTasks(want) {
			t.Fatalf("%s: Order of list %d:\n%s, not\n%s", what, list, toldTasks(got), toldTasks(want))
		}
	})
}

// mustBeAt asks what At tells of a task.
func mustBeAt(t *testing.T, what string, s api.State, id uint64, want int) {
	t.Helper()
	mustKeep(t, what, s, func() {
		if got := rank.At(s, id); got != want {
			t.Fatalf("%s: At of %d: %d, not %d\n%s", what, id, got, want, told(s))
		}
	})
}

// mustBetween asks what Between tells, to the bit.
func mustBetween(t *testing.T, what string, s api.State, list, after uint64, want float64, err api.Errno) {
	t.Helper()
	mustKeep(t, what, s, func() {
		got, e := rank.Between(s, list, after)
		if e != err || math.Float64bits(got) != math.Float64bits(want) {
			t.Fatalf("%s: Between of list %d, after %d: %v, %d, not %v, %d\n%s", what, list, after, got, e, want, err, told(s))
		}
	})
}

// mustSpread asks what Spread tells.
func mustSpread(t *testing.T, what string, s api.State, list uint64, want api.State) {
	t.Helper()
	mustKeep(t, what, s, func() {
		if got := rank.Spread(s, list); told(got) != told(want) {
			t.Fatalf("%s: Spread of list %d:\n%s, not\n%s", what, list, told(got), told(want))
		}
	})
}

// ranked is a Right state (but for the Ranks) whose list 2 has tasks with these Ranks, the Ids 10, 20, 30, ..; list 5 has none.
func ranked(l ...float64) api.State {
	s := api.State{Lists: []api.List{{Id: 2, Name: "l"}, {Id: 5, Name: "m"}}}
	for i, f := range l {
		s.Tasks = append(s.Tasks, api.Task{Id: uint64(10 * (i + 1)), List: 2, Title: "t", Rank: f, Est: theNaN})
	}
	return s
}

// mixed is a Right state of three lists, the second of them without tasks.
func mixed() api.State {
	return api.State{
		Lists: []api.List{{Id: 2, Name: "food"}, {Id: 5, Name: "none"}, {Id: 9, Name: "work"}},
		Tasks: []api.Task{
			{Id: 3, List: 9, Title: "write", Rank: 1, Est: theNaN, Tags: []string{"b", "c"}},
			{Id: 4, List: 2, Title: "eat", Done: true, Rank: 2, Est: 2, Tags: []string{"a"}},
			{Id: 6, List: 9, Title: "read", Rank: -inf, Est: 0},
			{Id: 7, List: 2, Title: "drink", Rank: -1, Est: 1, Tags: []string{"-", "9"}},
			{Id: 8, List: 2, Title: "eat", Rank: 2, Est: inf},
			{Id: 300, List: 9, Title: "send", Rank: 0.5, Est: theNaN},
			{Id: greatest, List: 2, Title: "wash", Rank: 0, Est: theNaN},
		},
	}
}

// jumbled isn't Right: of some Ids there are two or three, one is 0, one list isn't there, and neither order nor floats nor Tags are as they should be.
func jumbled() api.State {
	return api.State{
		Lists: []api.List{{Id: 9, Name: "second"}, {Id: 2, Name: ""}, {Id: 9, Name: "dropped"}, {Id: 0, Name: "nought"}},
		Tasks: []api.Task{
			{Id: 8, List: 2, Title: "", Rank: 5, Est: otherNaN, Tags: []string{"b", "a", "b"}},
			{Id: 3, List: 2, Title: "at a nought", Rank: minusZero, Est: minusZero},
			{Id: 8, List: 2, Title: "the same Id", Rank: -5},
			{Id: 1, List: 2, Title: "at a nought, too", Rank: 0},
			{Id: 6, List: 4, Title: "of no list", Rank: 7},
			{Id: 0, List: 2, Title: "no Id", Rank: otherNaN},
			{Id: 5, List: 9, Title: "of another list", Rank: otherNaN, Tags: []string{"x", "x"}},
			{Id: 2, List: 2, Title: "no number", Rank: theNaN},
			{Id: 5, List: 2, Title: "the same Id elsewhere", Rank: 1},
			{Id: 8, List: 2, Title: "the same Id and Rank", Rank: 5},
			{Id: 4, List: 4, Title: "of no list, too", Rank: 6},
		},
	}
}

// ordered are the tasks of the list by the words of the chapter: one by one each is put behind all that aren't behind it.
func ordered(s api.State, list uint64) []api.Task {
	var l []api.Task
	for _, t := range s.Tasks {
		if t.List != list {
			continue
		}
		at := len(l)
		for at > 0 && (less(t.Rank, l[at-1].Rank) || !less(l[at-1].Rank, t.Rank) && t.Id < l[at-1].Id) {
			at--
		}
		l = slices.Insert(l, at, t)
	}
	return l
}

// random tells numbers below n, the same ones each time.
func random(seed uint64) func(n int) int {
	return func(n int) int {
		seed = seed*6364136223846793005 + 1442695040888963407
		return int(seed>>33) % n
	}
}

// randomState has up to so many tasks, of the lists 2, 5 and 9, the Ids 10, 20, 30, .., in whatever order, with floats of these; where it is jumbled, some Ids are there more than once.
func randomState(r func(n int) int, tasks int, jumble bool, from []float64) api.State {
	s := api.State{Lists: []api.List{{Id: 2, Name: "l"}, {Id: 5, Name: "m"}, {Id: 9, Name: "n"}}}
	for i := range r(tasks + 1) {
		t := api.Task{
			Id: uint64(10 * (i + 1)), List: []uint64{2, 5, 9}[r(3)], Title: string(rune('a' + r(26))), Done: r(2) == 1,
			Rank: from[r(len(from))], Est: from[r(len(from))],
		}
		if jumble {
			t.Id = uint64(10 * (r(tasks) + 1))
		}
		for range r(4) {
			t.Tags = append(t.Tags, string(rune('a'+len(t.Tags))))
		}
		s.Tasks = slices.Insert(s.Tasks, r(len(s.Tasks)+1), t)
	}
	return s
}
