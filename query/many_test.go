package query_test

import (
	"math"
	"slices"
	"strings"
	"testing"

	"factotum/api"
	"factotum/query"
	"factotum/task"
)

// P13.1 to P13.3: many Right states and queries, held against the chapter's words.
func TestManyRightStates(t *testing.T) {
	r := random(1)
	for range 400 {
		s := rightState(r)
		if e := task.Right(s); e != api.OK {
			t.Fatal("the tests' own state isn't Right:", e)
		}
		for range 10 {
			mustBeAsWords(t, "Right", s, anyQuery(r))
		}
	}
}

// P13.1 to P13.3: many states of any kind and queries, held against the chapter's words; each error comes, and many answers of each kind.
func TestManyStates(t *testing.T) {
	r := random(2)
	found := map[api.Errno]int{}
	lengths := map[int]int{}
	for range 400 {
		s := anyState(r, 40)
		for range 10 {
			q := anyQuery(r)
			mustBeAsWords(t, "any", s, q)
			l, e := query.Run(s, q)
			found[e]++
			lengths[len(l)]++
		}
	}
	for _, e := range []api.Errno{api.OK, api.ErrList, api.ErrQuery} {
		if found[e] < 100 {
			t.Errorf("error %d came %d times", e, found[e])
		}
	}
	for n := range 20 {
		if lengths[n] == 0 {
			t.Errorf("no answer of %d tasks", n)
		}
	}
}

// P13.4: Run tells tasks of the state, each once: without a Limit those that hold and no others, as often as they are there.
func TestRunTellsEachOnce(t *testing.T) {
	r := random(3)
	for i := range 600 {
		s := anyState(r, 40)
		if i%2 == 0 {
			s = rightState(r)
		}
		q := api.Query{Done: r(3), Sort: r(4), Down: r(2) == 0, Tag: oneOf(r, tags())}
		left := map[string]int{}
		hold := 0
		for _, x := range s.Tasks {
			if query.Holds(x, q) {
				left[toldTask(x)]++
				hold++
			}
		}
		l, e := query.Run(s, q)
		if e != api.OK || len(l) != hold {
			t.Fatalf("%d, %d tasks, not %d", e, len(l), hold)
		}
		n, e := query.Sums(s, q)
		if e != api.OK || n.Count != hold {
			t.Fatalf("%d, Count %d, not %d", e, n.Count, hold)
		}
		for _, x := range l {
			left[toldTask(x)]--
			if left[toldTask(x)] < 0 {
				t.Fatalf("%s is told too often", toldTask(x))
			}
		}
	}
}

// P13.4: a Limit keeps the first ones of all, and Down turns all of them round.
func TestRunOfLimitAndDown(t *testing.T) {
	r := random(4)
	for range 600 {
		s := anyState(r, 40)
		q := api.Query{Done: r(3), Sort: r(4), Tag: oneOf(r, tags())}
		up, _ := query.Run(s, q)
		turned := slices.Clone(up)
		slices.Reverse(turned)
		for _, limit := range []int{0, 1, 2, r(40) + 1, len(up), len(up) + 1, math.MaxInt} {
			kept := len(up)
			if limit > 0 {
				kept = min(limit, len(up))
			}
			q.Limit, q.Down = limit, false
			mustTell(t, "a Limit", s, q, up[:kept], api.OK)
			q.Down = true
			mustTell(t, "a Limit, Down", s, q, turned[:kept], api.OK)
		}
	}
}

// P13.4: Count of Done 1 and of Done 2 come to that of Done 0; each is the Done of all, or none.
func TestPartsOfAll(t *testing.T) {
	r := random(5)
	for i := range 600 {
		s := anyState(r, 60)
		if i%2 == 0 {
			s = rightState(r)
		}
		q := anyQuery(r)
		var n [3]api.Totals
		var lengths [3]int
		var e api.Errno
		for q.Done = range 3 {
			n[q.Done], e = query.Sums(s, q)
			q := q
			q.Limit = min(q.Limit, 0)
			l, _ := query.Run(s, q)
			lengths[q.Done] = len(l)
		}
		if e != wordsErr(s, q) {
			t.Fatalf("%d of %+v", e, q)
		}
		if n[1].Count+n[2].Count != n[0].Count || n[1].Known+n[2].Known != n[0].Known {
			t.Fatalf("%v of\n%s", n, told(s))
		}
		if n[1].Done != n[0].Done || n[2].Done != 0 || n[1].Count != n[0].Done {
			t.Fatalf("Done: %v of\n%s", n, told(s))
		}
		if lengths[1]+lengths[2] != lengths[0] || e == api.OK && lengths[0] != n[0].Count {
			t.Fatalf("%v tasks, %v of\n%s", lengths, n, told(s))
		}
	}
}

// oddStates are of any kind: nothing, noughts, too much, wrong in each field.
func oddStates() []api.State {
	long := strings.Repeat("\xff", 1000)
	l := []api.State{
		{}, {Lists: []api.List{}, Tasks: []api.Task{}}, {Lists: make([]api.List, 1)}, {Tasks: make([]api.Task, 1)},
		{Lists: make([]api.List, 30), Tasks: make([]api.Task, 90)},
		{Lists: []api.List{{Id: greatest, Name: long}}, Tasks: []api.Task{{Id: greatest, List: greatest, Title: long, Tags: []string{long, "", long}}, {}}},
		{Lists: []api.List{{Id: 2}}, Tasks: []api.Task{{Id: 3, List: 2, Title: "t", Tags: make([]string, 300)}, {Id: 3, List: 2, Tags: []string{}}}},
		mixed(), jumbled(),
	}
	for _, f := range []float64{nans()[4], minusZero, -inf} {
		l = append(l, api.State{Lists: mixed().Lists, Tasks: []api.Task{{Id: 3, List: 2, Title: "t", Rank: f, Est: f}, {Id: 3, Rank: f}, {Id: 1, Est: f}}})
	}
	return l
}

// P1, P4: no call panics, whatever is handed in, and what each tells is what its words tell.
func TestAnyArguments(t *testing.T) {
	odd := []int{math.MinInt, -1, 0, 2, 3, math.MaxInt}
	for _, s := range oddStates() {
		for _, list := range []uint64{0, 2, greatest} {
			for i, done := range odd {
				for j, sort := range odd {
					for k, limit := range odd {
						tag := []string{"", "a", strings.Repeat("\xff", 1000)}[(i+j+k)%3]
						mustBeAsWords(t, "odd", s, api.Query{List: list, Done: done, Sort: sort, Limit: limit, Tag: tag, Down: (i+k)%2 == 0})
					}
				}
			}
		}
	}
}

// P3: the same arguments, the same answers, however often; a nil list is an empty one.
func TestTheSameAnswers(t *testing.T) {
	r := random(6)
	for range 60 {
		s, q := anyState(r, 60), anyQuery(r)
		l, e := query.Run(s, q)
		n, f := query.Sums(s, q)
		for i := range s.Tasks {
			if len(s.Tasks[i].Tags) == 0 {
				s.Tasks[i].Tags = []string{}
			}
		}
		for range 10 {
			mustTell(t, "again", s, q, l, e)
			mustSum(t, "again", s, q, n, f)
		}
	}
}
