package fold_test

import (
	"fmt"
	"math"
	"slices"
	"strings"
	"testing"

	"factotum/api"
	"factotum/fold"
)

const (
	least    = math.SmallestNonzeroFloat64
	greatest = math.MaxUint64
)

var (
	inf       = math.Inf(1)
	minusZero = math.Copysign(0, -1)
	theNaN    = math.Float64frombits(0x7ff8000000000001)
	otherNaN  = math.Float64frombits(0xfff0000000000002)
)

func bits(f float64) string { return fmt.Sprintf("%v(%x)", f, math.Float64bits(f)) }

// toldTask is all of a task, its floats by their bits.
func toldTask(t api.Task) string {
	return fmt.Sprintf("task %d of %d %q %t %s %s %q", t.Id, t.List, t.Title, t.Done, bits(t.Rank), bits(t.Est), t.Tags)
}

// told is all of a state.
func told(s api.State) string {
	var b strings.Builder
	for _, l := range s.Lists {
		fmt.Fprintf(&b, "list %d %q; ", l.Id, l.Name)
	}
	for _, t := range s.Tasks {
		b.WriteString(toldTask(t) + "; ")
	}
	return b.String()
}

func toldItem(x api.Item) string {
	m := x.Mut
	return fmt.Sprintf("item %d of %d: Kind %d, Id %d, List %d, Text %q, F %s, Flag %t", x.Id, x.Ident, m.Kind, m.Id, m.List, m.Text, bits(m.F), m.Flag)
}

// toldGiven is all of what is handed in, and of what lies behind its lists.
func toldGiven(s api.State, l []api.Item) string {
	b := []string{told(wide(s))}
	for _, x := range l[:cap(l)] {
		b = append(b, toldItem(x))
	}
	return strings.Join(b, "; ")
}

// wide is s with its lists as long as there is room for.
func wide(s api.State) api.State {
	w := api.State{Lists: s.Lists[:cap(s.Lists)], Tasks: slices.Clone(s.Tasks[:cap(s.Tasks)])}
	for i, t := range w.Tasks {
		w.Tasks[i].Tags = t.Tags[:cap(t.Tags)]
	}
	return w
}

// behind is a copy of l with x behind it, and no room behind that.
func behind[T any](l []T, x T) []T {
	n := len(l)
	return append(append(make([]T, 0, n+1), l...), x)[: n : n+1]
}

// roomy is s in memory of its own, with something behind each of its lists.
func roomy(s api.State) api.State {
	r := api.State{Lists: behind(s.Lists, api.List{Id: 77, Name: "behind"}), Tasks: behind(s.Tasks, api.Task{Id: 78, List: 2, Title: "behind"})}
	for i, t := range r.Tasks {
		r.Tasks[i].Tags = behind(t.Tags, "behind")
	}
	return r
}

// roomyItems are l in memory of their own, with a mutation behind them that would be seen.
func roomyItems(l []api.Item) []api.Item { return behind(l, addList(greatest-5, "behind")) }

// spoil changes all that a caller may change of s, as far as there is room.
func spoil(s api.State) {
	for i := range s.Lists[:cap(s.Lists)] {
		s.Lists[:cap(s.Lists)][i] = api.List{Id: 99, Name: "spoilt"}
	}
	for i, t := range s.Tasks[:cap(s.Tasks)] {
		for j := range t.Tags[:cap(t.Tags)] {
			t.Tags[:cap(t.Tags)][j] = "spoilt"
		}
		s.Tasks[:cap(s.Tasks)][i] = api.Task{Id: 99, List: 99, Title: "spoilt", Done: true, Rank: 99, Est: 99, Tags: []string{"spoilt"}}
	}
}

func spoilErrs(l []api.Errno) {
	for i := range l[:cap(l)] {
		l[:cap(l)][i] = 99
	}
}

func spoilItems(l []api.Item) {
	for i := range l {
		l[i] = addList(greatest-6, "spoilt")
	}
}

// nothingBehind asks that behind an answer's lists there is nothing of anybody's.
func nothingBehind(t *testing.T, what string, s api.State) {
	t.Helper()
	for _, l := range s.Lists[len(s.Lists):cap(s.Lists)] {
		if l != (api.List{}) {
			t.Fatalf("%s: behind the lists lies %v", what, l)
		}
	}
	for _, x := range s.Tasks[len(s.Tasks):cap(s.Tasks)] {
		if toldTask(x) != toldTask(api.Task{}) {
			t.Fatalf("%s: behind the tasks lies %s", what, toldTask(x))
		}
	}
	for _, x := range s.Tasks {
		for _, tag := range x.Tags[len(x.Tags):cap(x.Tags)] {
			if tag != "" {
				t.Fatalf("%s: behind the Tags of %s lies %q", what, toldTask(x), tag)
			}
		}
	}
}

// mustBe asks for this state, with nothing behind its lists.
func mustBe(t *testing.T, what string, got, want api.State) {
	t.Helper()
	if told(got) != told(want) {
		t.Fatalf("%s: the state is\n%s, not\n%s", what, told(got), told(want))
	}
	nothingBehind(t, what, got)
}

func mustErr(t *testing.T, what string, got, want []api.Errno) {
	t.Helper()
	if !slices.Equal(got, want) {
		t.Fatalf("%s: the errors are %v, not %v", what, got, want)
	}
	for _, e := range got[len(got):cap(got)] {
		if e != api.OK {
			t.Fatalf("%s: behind the errors lies %d", what, e)
		}
	}
}

// mustFold asks that s and l come to these states, ahead of the first item and behind each one, and to these errors: told by All, by Each and by a Line, also where there is room behind what is handed in, which stays as it was.
func mustFold(t *testing.T, what string, s api.State, l []api.Item, states []api.State, errs []api.Errno) {
	t.Helper()
	if len(states) != len(l)+1 || len(errs) != len(l) {
		t.Fatalf("%s: the test asks for %d states and %d errors of %d items", what, len(states), len(errs), len(l))
	}
	for _, room := range []bool{false, true} {
		s, l := s, l
		if room {
			s, l = roomy(s), roomyItems(l)
		}
		was := toldGiven(s, l)
		mustAll(t, what, s, l, states[len(l)], errs)
		mustEach(t, what, s, l, states)
		mustLines(t, what, s, l, states, errs)
		if is := toldGiven(s, l); is != was {
			t.Fatalf("%s: what was handed in is\n%s, not\n%s", what, is, was)
		}
	}
}

// mustAll asks what All tells, and that two answers share nothing.
func mustAll(t *testing.T, what string, s api.State, l []api.Item, want api.State, errs []api.Errno) {
	t.Helper()
	got, e := fold.All(s, l...)
	again, f := fold.All(s, l...)
	mustBe(t, what+": All", got, want)
	mustErr(t, what+": All", e, errs)
	spoil(got)
	spoilErrs(e)
	mustBe(t, what+": All, the other answer spoilt", again, want)
	mustErr(t, what+": All, the other answer spoilt", f, errs)
}

// mustEach asks what Each tells, each time that it is gone through: to its end, left at each number, and with each state spoilt as soon as it is told.
func mustEach(t *testing.T, what string, s api.State, l []api.Item, states []api.State) {
	t.Helper()
	each := fold.Each(s, l...)
	var kept []api.State
	for n, got := range each {
		if n != len(kept) {
			t.Fatalf("%s: Each tells the number %d behind %d states", what, n, len(kept))
		}
		kept = append(kept, got)
	}
	if len(kept) != len(states) {
		t.Fatalf("%s: Each tells %d states, not %d", what, len(kept), len(states))
	}
	for n, got := range kept {
		mustBe(t, fmt.Sprintf("%s: Each, kept to the end, at %d", what, n), got, states[n])
	}
	for _, left := range places(len(l)) {
		n := 0
		for i, got := range each {
			mustBe(t, fmt.Sprintf("%s: Each, at %d, to be left at %d", what, i, left), got, states[n])
			spoil(got)
			if i != n || i > left {
				t.Fatalf("%s: Each, to be left at %d, tells %d, not %d", what, left, i, n)
			}
			if i == left {
				break
			}
			n++
		}
	}
	for n, got := range kept {
		mustBe(t, fmt.Sprintf("%s: Each, others spoilt, at %d", what, n), got, states[n])
	}
}

// mustLines asks what Lines tell to which l is added in one call, item by item, and in two parts of each size.
func mustLines(t *testing.T, what string, s api.State, l []api.Item, states []api.State, errs []api.Errno) {
	t.Helper()
	x := fold.New(s)
	mustLine(t, what+": New", x, 0, states[:1])
	for i := range l {
		mustErr(t, what+": Add of one", x.Add(l[i]), errs[i:i+1])
		mustErr(t, what+": Add of none", x.Add(), nil)
	}
	mustLine(t, what+": Add one by one", x, 0, states)
	for _, i := range places(len(l)) {
		x := fold.New(s)
		mustErr(t, what+": Add of the first", x.Add(l[:i]...), errs[:i])
		mustErr(t, what+": Add of the others", x.Add(l[i:]...), errs[i:])
		mustLine(t, what+": Add of two parts", x, 0, states)
	}
}

// mustLine asks that x tells these states from the number first on, and no others, also where what it told was spoilt.
func mustLine(t *testing.T, what string, x *fold.Line, first int, states []api.State) {
	t.Helper()
	end := first + len(states) - 1
	if n := x.Len(); n != end {
		t.Fatalf("%s: Len is %d, not %d", what, n, end)
	}
	for i, want := range states {
		for range 2 {
			got, is := x.At(first + i)
			other, _ := x.At(first + i)
			if !is {
				t.Fatalf("%s: At(%d) of %d to %d isn't told", what, first+i, first, end)
			}
			mustBe(t, fmt.Sprintf("%s: At(%d)", what, first+i), got, want)
			spoil(got)
			mustBe(t, fmt.Sprintf("%s: At(%d), the other answer spoilt", what, first+i), other, want)
			spoil(other)
		}
	}
	for _, n := range outside(first, end) {
		if s, is := x.At(n); is || told(s) != "" {
			t.Fatalf("%s: At(%d) of %d to %d: %t, %s", what, n, first, end, is, told(s))
		}
	}
}

// places are the numbers from 0 to n, of many of them some.
func places(n int) []int {
	var l []int
	for i := range n + 1 {
		if n <= 12 || i < 2 || i == n/2 || i >= n-1 {
			l = append(l, i)
		}
	}
	return l
}

// outside are numbers below first and above end; some would be within in fewer bits.
func outside(first, end int) []int {
	l := []int{math.MinInt, math.MinInt + first, math.MinInt + end, -1<<32 + end, -1 << 32, -first - 1, 1<<32 + first, 1<<32 + end, 1<<16 + end, 1<<8 + end, math.MaxInt}
	for n := -2; n < first; n++ {
		l = append(l, n)
	}
	return append(l, end+1, end+2, 2*end+1, 2*end+2)
}

// Items, with Idents and Ids that say nothing.
func do(m api.Mut) api.Item { return api.Item{Ident: 5, Id: 9, Mut: m} }

func addList(id uint64, name string) api.Item {
	return do(api.Mut{Kind: api.MutList, Id: id, Text: name})
}

func drop(list uint64) api.Item { return do(api.Mut{Kind: api.MutDrop, Id: list}) }

func addTask(id, list uint64, title string, rank float64) api.Item {
	return do(api.Mut{Kind: api.MutMake, Id: id, List: list, Text: title, F: rank})
}

func addTag(id uint64, tag string) api.Item {
	return do(api.Mut{Kind: api.MutTag, Id: id, Text: tag})
}

func edit(id uint64, title string) api.Item {
	return do(api.Mut{Kind: api.MutEdit, Id: id, Text: title})
}

func estimate(id uint64, est float64) api.Item {
	return do(api.Mut{Kind: api.MutEst, Id: id, F: est})
}

// small is a Right state of a list and two tasks.
func small() api.State {
	return api.State{
		Lists: []api.List{{Id: 2, Name: "food"}},
		Tasks: []api.Task{
			{Id: 3, List: 2, Title: "eat", Rank: 1, Est: theNaN, Tags: []string{"b", "d"}},
			{Id: 7, List: 2, Title: "drink", Done: true, Rank: -inf, Est: 2},
		},
	}
}

// with is small with something changed in its task 3.
func with(change func(x *api.Task)) api.State {
	s := small()
	change(&s.Tasks[0])
	return s
}

// random tells numbers below n, the same ones each time.
func random(seed uint64) func(n int) int {
	return func(n int) int {
		seed = seed*6364136223846793005 + 1442695040888963407
		return int(seed>>33) % n
	}
}

// oneOf is one of l.
func oneOf[T any](r func(n int) int, l []T) T { return l[r(len(l))] }
