package query_test

import (
	"math"
	"slices"
	"testing"

	"factotum/api"
	"factotum/query"
	"factotum/task"
)

// What the chapter tells, its words one by one: slow, and without a sort.

// less is flt.Less by the words of its chapter: -Inf is less than all but NaN, which is less than all.
func less(a, b float64) bool { return a < b || a != a && b == b }

// lessBytes holds texts against each other byte by byte.
func lessBytes(a, b string) bool {
	for i := range min(len(a), len(b)) {
		if a[i] != b[i] {
			return a[i] < b[i]
		}
	}
	return len(a) < len(b)
}

// aheadBy: a comes ahead of b by the order alone, not yet by Id.
func aheadBy(a, b api.Task, sort int) bool {
	switch sort {
	case query.ByRank:
		return a.List < b.List || a.List == b.List && less(a.Rank, b.Rank)
	case query.ByTitle:
		return lessBytes(a.Title, b.Title)
	case query.ByEst:
		return less(a.Est, b.Est)
	}
	return a.Id < b.Id
}

// ahead: a comes ahead of b.
func ahead(a, b api.Task, sort int) bool {
	if aheadBy(a, b, sort) || aheadBy(b, a, sort) {
		return aheadBy(a, b, sort)
	}
	return a.Id < b.Id
}

// wordsHold is what P13.1 tells.
func wordsHold(x api.Task, q api.Query) bool {
	if q.List != 0 && x.List != q.List {
		return false
	}
	if q.Done != 0 && !(q.Done == 1 && x.Done) && !(q.Done == 2 && !x.Done) {
		return false
	}
	is := q.Tag == ""
	for _, tag := range x.Tags {
		is = is || tag == q.Tag
	}
	return is
}

// wordsErr is the error that P13.2 tells.
func wordsErr(s api.State, q api.Query) api.Errno {
	if q.Done != 0 && q.Done != 1 && q.Done != 2 {
		return api.ErrQuery
	}
	if q.Sort != query.ByRank && q.Sort != query.ById && q.Sort != query.ByTitle && q.Sort != query.ByEst {
		return api.ErrQuery
	}
	if q.Limit < 0 {
		return api.ErrQuery
	}
	for _, l := range s.Lists {
		if l.Id == q.List {
			return api.OK
		}
	}
	if q.List == 0 {
		return api.OK
	}
	return api.ErrList
}

// wordsRun is what P13.2 tells: one by one each task is put behind all that it doesn't come ahead of.
func wordsRun(s api.State, q api.Query) ([]api.Task, api.Errno) {
	if e := wordsErr(s, q); e != api.OK {
		return nil, e
	}
	var l []api.Task
	for _, x := range s.Tasks {
		if !wordsHold(x, q) {
			continue
		}
		place := len(l)
		for place > 0 && ahead(x, l[place-1], q.Sort) {
			place--
		}
		l = slices.Insert(l, place, x)
	}
	var n []api.Task
	for i := range l {
		x := l[i]
		if q.Down {
			x = l[len(l)-1-i]
		}
		if q.Limit == 0 || i < q.Limit {
			n = append(n, x)
		}
	}
	return n, api.OK
}

// wordsSums is what P13.3 tells.
func wordsSums(s api.State, q api.Query) (api.Totals, api.Errno) {
	if e := wordsErr(s, q); e != api.OK {
		return api.Totals{}, e
	}
	n := api.Totals{Least: theNaN, Most: theNaN}
	for _, x := range s.Tasks {
		if !wordsHold(x, q) {
			continue
		}
		n.Count++
		if x.Done {
			n.Done++
		}
		if math.IsNaN(x.Est) {
			continue
		}
		n.Known++
		n.Sum += x.Est
		if n.Known == 1 || x.Est < n.Least {
			n.Least = x.Est
		}
		if n.Known == 1 || x.Est > n.Most {
			n.Most = x.Est
		}
	}
	n.Sum, n.Least, n.Most = clean(n.Sum), clean(n.Least), clean(n.Most)
	return n, api.OK
}

// clean is f with one NaN, and one nought.
func clean(f float64) float64 {
	switch {
	case f != f:
		return theNaN
	case f == 0:
		return 0
	}
	return f
}

// mustBeAsWords asks that Run, Sums and Holds tell what the words tell.
func mustBeAsWords(t *testing.T, what string, s api.State, q api.Query) {
	t.Helper()
	l, e := wordsRun(s, q)
	mustTell(t, what, s, q, l, e)
	n, e := wordsSums(s, q)
	mustSum(t, what, s, q, n, e)
	for _, x := range s.Tasks {
		mustHold(t, what, x, q, wordsHold(x, q))
	}
}

// tags and titles are few, so that many tasks have them in common; some may not be.
func tags() []string { return []string{"a", "b", "-", "ab", "", "A", "\xff"} }

func titles() []string {
	return []string{"a", "b", "ab", "a b", "", "~", "\x7f", "\x80", "\xff", "a\x00", "Z", "ä"}
}

// anyState may be wrong in each way, with up to so many tasks.
func anyState(r func(n int) int, tasks int) api.State {
	var s api.State
	ids := []uint64{0, 1, 2, 3, 4, 5, 6, 7, 1 << 32, 1 << 63, greatest}
	for range r(5) {
		s.Lists = append(s.Lists, api.List{Id: oneOf(r, ids[:6]), Name: oneOf(r, titles())})
	}
	for range r(tasks + 1) {
		x := api.Task{Id: oneOf(r, ids), List: oneOf(r, ids[:6]), Title: oneOf(r, titles()), Done: r(2) == 0}
		x.Rank, x.Est = oneOf(r, floats()), oneOf(r, floats())
		for range r(6) {
			x.Tags = append(x.Tags, oneOf(r, tags()))
		}
		s.Tasks = append(s.Tasks, x)
	}
	return s
}

// rightState is Right, with up to 60 tasks.
func rightState(r func(n int) int) api.State {
	s := api.State{Lists: []api.List{{Id: 1, Name: "l"}, {Id: 3, Name: "m"}, {Id: 1 << 63, Name: "n"}}}
	id := uint64(0)
	for range r(61) {
		id += uint64(1 + r(3))
		x := api.Task{Id: id, List: oneOf(r, s.Lists).Id, Title: oneOf(r, []string{"a", "ab", "b", "~", "Z"}), Done: r(2) == 0}
		x.Rank, x.Est = clean(oneOf(r, numbers())), clean(oneOf(r, floats()))
		for range r(5) {
			x.Tags = append(x.Tags, oneOf(r, []string{"-", "a", "ab", "b"}))
		}
		s.Tasks = append(s.Tasks, x)
	}
	return task.Canon(s)
}

// anyQuery may be wrong in each way, but often isn't.
func anyQuery(r func(n int) int) api.Query {
	q := api.Query{Done: r(3), Sort: r(4), Down: r(2) == 0}
	if r(2) == 0 {
		q.List = oneOf(r, []uint64{1, 2, 3, 4, 5, 6, 1 << 63})
	}
	if r(2) == 0 {
		q.Tag = oneOf(r, tags())
	}
	if r(2) == 0 {
		q.Limit = r(70)
	}
	switch r(12) {
	case 0:
		q.Done = oneOf(r, []int{-1, 3, math.MinInt, math.MaxInt})
	case 1:
		q.Sort = oneOf(r, []int{-1, 4, math.MinInt, math.MaxInt})
	case 2:
		q.Limit = oneOf(r, []int{-1, -2, math.MinInt, math.MaxInt})
	}
	return q
}
