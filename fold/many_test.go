package fold_test

import (
	"math"
	"slices"
	"strings"
	"testing"

	"factotum/api"
	"factotum/fold"
	"factotum/mutate"
	"factotum/task"
)

// words are the states and errors that the chapter's words tell: ahead of the first item, and behind each one.
func words(s api.State, l []api.Item) ([]api.State, []api.Errno) {
	states, errs := make([]api.State, len(l)+1), make([]api.Errno, len(l))
	if canon := task.Canon(s); task.Right(canon) == api.OK {
		states[0] = canon
	}
	for i, x := range l {
		states[i+1], errs[i] = mutate.Apply(states[i], x.Mut)
		if errs[i] != api.OK {
			states[i+1] = task.Canon(states[i])
		}
	}
	return states, errs
}

// anyItem may be wrong in each way, but goes well often on anyState.
func anyItem(r func(n int) int) api.Item {
	ids := []uint64{1, 2, 3, 4, 5, 6, 1 << 63}
	list := oneOf(r, []uint64{1, 1, 2, 3, 4})
	m := api.Mut{Kind: 1 + r(13)}
	if r(2) == 0 {
		m.Kind = oneOf(r, []int{api.MutList, api.MutMake, api.MutMake, api.MutTag})
	}
	switch m.Kind {
	case api.MutList:
		m.Id, m.Text = list, oneOf(r, []string{"a", "b"})
	case api.MutDrop:
		m.Id = list
	case api.MutMake:
		m.Id, m.List, m.Text, m.F = oneOf(r, ids), list, oneOf(r, []string{"a", "b"}), float64(r(4))
	case api.MutEdit:
		m.Id, m.Text = oneOf(r, ids), oneOf(r, []string{"c", "d", ""})
	case api.MutTag:
		m.Id, m.Text = oneOf(r, ids[:2]), oneOf(r, []string{"a", "b", "c", "d", "e", "f"})
	case api.MutUntag:
		m.Id, m.Text = oneOf(r, ids), oneOf(r, []string{"a", "b", "c", "d"})
	case api.MutDone:
		m.Id, m.Flag = oneOf(r, ids), r(4) > 0
	case api.MutMove:
		m.Id, m.List, m.F = oneOf(r, ids), list, float64(r(4))
	case api.MutRank, api.MutEst:
		m.Id, m.F = oneOf(r, ids), oneOf(r, []float64{0, 1, -inf, least, theNaN})
	case api.MutDelete:
		m.Id = oneOf(r, ids)
	default:
		m.List = list
	}
	if r(20) == 0 {
		m.Kind = oneOf(r, []int{math.MinInt, -1, 0, 14, math.MaxInt})
	}
	return api.Item{Ident: uint64(r(3)), Id: uint64(r(9)), Mut: m}
}

func anyItems(r func(n int) int, most int) []api.Item {
	var l []api.Item
	for range r(most + 1) {
		l = append(l, anyItem(r))
	}
	return l
}

// anyState is Right every other time, and out of order or wrong else.
func anyState(r func(n int) int) api.State {
	var s api.State
	for range r(4) {
		s.Lists = append(s.Lists, api.List{Id: uint64(1 + r(4)), Name: oneOf(r, []string{"a", "b"})})
	}
	for range r(7) {
		x := api.Task{Id: oneOf(r, []uint64{1, 2, 3, 4, 5, 6, 1 << 63}), List: 1, Title: oneOf(r, []string{"a", "b"}), Done: r(2) == 0}
		if len(s.Lists) > 0 {
			x.List = oneOf(r, s.Lists).Id
		}
		x.Rank, x.Est = oneOf(r, []float64{0, minusZero, 1, -inf}), oneOf(r, []float64{0, minusZero, 1, inf, theNaN, otherNaN})
		for range r(8) {
			x.Tags = append(x.Tags, oneOf(r, []string{"a", "b", "c", "d"}))
		}
		s.Tasks = append(s.Tasks, x)
	}
	if r(2) == 0 {
		return task.Canon(s)
	}
	if len(s.Tasks) > 0 && r(3) == 0 {
		s.Tasks[0].Rank = theNaN
	}
	return s
}

// P14.1, P14.2: many states and items, held against the chapter's words; each error comes some times.
func TestMany(t *testing.T) {
	r := random(1)
	found := map[api.Errno]int{}
	right, canon := 0, 0
	for range 400 {
		s, l := anyState(r), anyItems(r, 12)
		states, errs := words(s, l)
		mustFold(t, "made up", s, l, states, errs)
		for _, e := range errs {
			found[e]++
		}
		if task.Right(s) == api.OK {
			right++
		} else if task.Right(task.Canon(s)) == api.OK {
			canon++
		}
	}
	for _, e := range []api.Errno{api.OK, api.ErrNone, api.ErrList, api.ErrThere, api.ErrTask, api.ErrText, api.ErrRank, api.ErrMut, api.ErrMany} {
		if found[e] < 5 {
			t.Errorf("error %d came %d times", e, found[e])
		}
	}
	if right < 50 || canon < 50 || 400-right-canon < 50 {
		t.Errorf("%d Right states, %d that are in order then", right, canon)
	}
}

// P14.3: l and m, one behind the other, come to what m comes to behind l, at each cut.
func TestInParts(t *testing.T) {
	r := random(2)
	for range 300 {
		s, l := anyState(r), anyItems(r, 40)
		whole, errs := fold.All(s, l...)
		for cut := range len(l) + 1 {
			first, e := fold.All(s, l[:cut]...)
			both, f := fold.All(first, l[cut:]...)
			mustBe(t, "in parts", both, whole)
			mustErr(t, "in parts", append(e, f...), errs)
		}
		now, some := s, []api.Errno(nil)
		for i := range l {
			next, e := fold.All(now, l[i])
			now, some = next, append(some, e...)
		}
		if len(l) > 0 {
			mustBe(t, "one by one", now, whole)
			mustErr(t, "one by one", some, errs)
		}
	}
}

// P14.3: Each and a Line go on from where All ends, too.
func TestInPartsOfOthers(t *testing.T) {
	r := random(3)
	for range 300 {
		s, l := anyState(r), anyItems(r, 20)
		cut := r(len(l) + 1)
		first, _ := fold.All(s, l[:cut]...)
		x, y := fold.New(s), fold.New(first)
		x.Add(l...)
		y.Add(l[cut:]...)
		for n, got := range fold.Each(first, l[cut:]...) {
			a, _ := x.At(cut + n)
			b, _ := y.At(n)
			mustBe(t, "Each", got, a)
			mustBe(t, "a Line", b, a)
		}
		all, _ := fold.All(s, l...)
		end, _ := x.At(x.Len())
		mustBe(t, "the end", end, all)
	}
}

// P14.2, P14.4: Lines to which things are done in any order, held against all states that there ever were.
func TestManyLines(t *testing.T) {
	r := random(4)
	trimmed, refused := 0, 0
	for range 250 {
		s := anyState(r)
		x := fold.New(s)
		states, _ := words(s, nil)
		first := 0
		for range 25 {
			switch r(3) {
			case 0:
				l := anyItems(r, 4)
				more, errs := words(states[len(states)-1], l)
				mustErr(t, "Add", x.Add(l...), errs)
				states = append(states, more[1:]...)
			case 1:
				// Mostly near the first one, so that it isn't at its end at once.
				n := first + r(4) - 1
				is := x.Trim(n)
				if is != (n >= first && n < len(states)) {
					t.Fatalf("Trim(%d) of %d to %d: %t", n, first, len(states)-1, is)
				}
				if is {
					first = n
					trimmed++
				} else {
					refused++
				}
			case 2:
				n := r(len(states)+4) - 2
				s, is := x.At(n)
				if is != (n >= first && n < len(states)) {
					t.Fatalf("At(%d) of %d to %d: %t", n, first, len(states)-1, is)
				}
				spoil(s)
			}
		}
		mustLine(t, "any order", x, first, states[first:])
	}
	if trimmed < 100 || refused < 100 {
		t.Errorf("%d Trims that hold, %d that don't", trimmed, refused)
	}
}

// P14.4: what a Line tells is the same ahead of a Trim and behind it, and as of one that was never trimmed.
func TestTrimmed(t *testing.T) {
	r := random(5)
	for range 150 {
		s, l, m := anyState(r), anyItems(r, 12), anyItems(r, 5)
		whole := fold.New(s)
		whole.Add(l...)
		more := whole.Add(m...)
		for n := range len(l) + 1 {
			x := fold.New(s)
			x.Add(l...)
			if !x.Trim(n) {
				t.Fatal("Trim doesn't hold")
			}
			mustErr(t, "behind a Trim", x.Add(m...), more)
			if x.Len() != whole.Len() {
				t.Fatal(x.Len(), whole.Len())
			}
			for i := range whole.Len() + 1 {
				got, is := x.At(i)
				want, _ := whole.At(i)
				if is != (i >= n) {
					t.Fatalf("Trim(%d), At(%d): %t", n, i, is)
				}
				if is {
					mustBe(t, "trimmed", got, want)
				}
			}
		}
	}
}

// P1: no call panics, whatever is handed in.
func TestAnyArguments(t *testing.T) {
	long := strings.Repeat("\xff", 100)
	states := slices.Concat(wrong(), []api.State{
		{}, small(), {Lists: make([]api.List, 1)}, {Tasks: make([]api.Task, 1)}, {Lists: make([]api.List, 30), Tasks: make([]api.Task, 90)},
		{Lists: []api.List{{Id: greatest, Name: long}}, Tasks: []api.Task{{Id: greatest, List: greatest, Title: long, Tags: []string{long, "", long}}, {}}},
	})
	for _, x := range outOfOrder() {
		states = append(states, x[0])
	}
	l := make([]api.Item, 3)
	for kind := -1; kind < 15; kind++ {
		for _, id := range []uint64{0, 2, 3, greatest} {
			for _, text := range []string{"", "a", long} {
				l = append(l, do(api.Mut{Kind: kind, Id: id, Text: text}), do(api.Mut{Kind: kind, List: id}))
			}
		}
		for _, f := range []float64{minusZero, otherNaN, theNaN, inf} {
			l = append(l, api.Item{Ident: greatest, Id: greatest, Mut: api.Mut{Kind: kind, Id: 3, F: f, Flag: f == inf}})
		}
	}
	for i, s := range states {
		for j := i % 40; j+4 < len(l); j += 40 {
			told, errs := words(s, l[j:j+4])
			mustFold(t, "an odd state", s, l[j:j+4], told, errs)
		}
		told, errs := words(s, l)
		mustAll(t, "odd states and items", s, l, told[len(l)], errs)
	}
	for _, s := range []api.State{{}, small()} {
		told, errs := words(s, l)
		mustFold(t, "odd items", s, l, told, errs)
	}
}

// P3: the same arguments, the same answers, however often; a nil list is an empty one.
func TestTheSameAnswers(t *testing.T) {
	r := random(6)
	for range 40 {
		s, l := anyState(r), anyItems(r, 8)
		states, errs := words(s, l)
		for i := range s.Tasks {
			if len(s.Tasks[i].Tags) == 0 {
				s.Tasks[i].Tags = []string{}
			}
		}
		for range 3 {
			mustFold(t, "again", s, l, states, errs)
		}
	}
}
