package mutate_test

import (
	"cmp"
	"math"
	"slices"
	"testing"

	"factotum/api"
	"factotum/mutate"
	"factotum/task"
)

// refused is the error that the document names for a Right state and a mutation that Check passes, its words one by one.
func refused(s api.State, m api.Mut) api.Errno {
	hasList := func(id uint64) bool { return slices.ContainsFunc(s.Lists, func(l api.List) bool { return l.Id == id }) }
	var x *api.Task
	for i := range s.Tasks {
		if s.Tasks[i].Id == m.Id {
			x = &s.Tasks[i]
		}
	}
	tagged := x != nil && slices.Contains(x.Tags, m.Text)
	type reason struct {
		holds bool
		err   api.Errno
	}
	reasons := map[int][]reason{
		api.MutList:   {{hasList(m.Id), api.ErrThere}, {len(s.Lists) == 20, api.ErrMany}},
		api.MutDrop:   {{!hasList(m.Id), api.ErrList}},
		api.MutClear:  {{!hasList(m.List), api.ErrList}},
		api.MutSpread: {{!hasList(m.List), api.ErrList}},
		api.MutMake:   {{x != nil, api.ErrThere}, {!hasList(m.List), api.ErrList}, {len(s.Tasks) == 60, api.ErrMany}},
		api.MutMove:   {{x == nil, api.ErrTask}, {!hasList(m.List), api.ErrList}},
		api.MutTag:    {{x == nil, api.ErrTask}, {tagged, api.ErrThere}, {x != nil && len(x.Tags) == 4, api.ErrMany}},
		api.MutUntag:  {{x == nil, api.ErrTask}, {!tagged, api.ErrNone}},
	}[m.Kind]
	if reasons == nil {
		reasons = []reason{{x == nil, api.ErrTask}}
	}
	for _, r := range reasons {
		if r.holds {
			return r.err
		}
	}
	return api.OK
}

// spread is the Rank of a task behind a MutSpread: 1, and 1 more for each task of its list that is ahead of it.
func spread(s api.State, x api.Task) float64 {
	f := 1.0
	for _, y := range s.Tasks {
		if y.List == x.List && (y.Rank < x.Rank || y.Rank == x.Rank && y.Id < x.Id) {
			f++
		}
	}
	return f
}

// stays is what becomes of a task that was there, and whether it is there any more.
func stays(s api.State, m api.Mut, x api.Task) (api.Task, bool) {
	switch {
	case m.Kind == api.MutDrop && x.List == m.Id, m.Kind == api.MutClear && x.List == m.List && x.Done, m.Kind == api.MutDelete && x.Id == m.Id:
		return x, false
	case m.Kind == api.MutSpread && x.List == m.List:
		x.Rank = spread(s, x)
	case x.Id != m.Id:
		return x, true
	case m.Kind == api.MutEdit:
		x.Title = m.Text
	case m.Kind == api.MutDone:
		x.Done = m.Flag
	case m.Kind == api.MutMove:
		x.List, x.Rank = m.List, m.F
	case m.Kind == api.MutRank:
		x.Rank = m.F
	case m.Kind == api.MutEst:
		x.Est = m.F
	case m.Kind == api.MutTag:
		x.Tags = append(slices.Clone(x.Tags), m.Text)
		slices.Sort(x.Tags)
	case m.Kind == api.MutUntag:
		x.Tags = slices.DeleteFunc(slices.Clone(x.Tags), func(tag string) bool { return tag == m.Text })
	}
	return x, true
}

// expected is what Apply tells where nothing refuses, made anew thing by thing.
func expected(s api.State, m api.Mut) api.State {
	var n api.State
	for _, l := range s.Lists {
		if m.Kind != api.MutDrop || l.Id != m.Id {
			n.Lists = append(n.Lists, l)
		}
	}
	for _, x := range s.Tasks {
		if x, is := stays(s, m, x); is {
			n.Tasks = append(n.Tasks, x)
		}
	}
	switch m.Kind {
	case api.MutList:
		n.Lists = append(n.Lists, api.List{Id: m.Id, Name: m.Text})
	case api.MutMake:
		n.Tasks = append(n.Tasks, api.Task{Id: m.Id, List: m.List, Title: m.Text, Rank: m.F, Est: theNaN})
	}
	slices.SortFunc(n.Lists, func(a, b api.List) int { return cmp.Compare(a.Id, b.Id) })
	slices.SortFunc(n.Tasks, func(a, b api.Task) int { return cmp.Compare(a.Id, b.Id) })
	return n
}

// mustLeave asks that all that m doesn't name is in n as it was in s, and that nothing is there that m doesn't name and s doesn't have.
func mustLeave(t *testing.T, s, n api.State, m api.Mut) {
	t.Helper()
	ofList := m.Kind == api.MutList || m.Kind == api.MutDrop
	named := func(l api.List) bool { return ofList && l.Id == m.Id }
	a, b := slices.DeleteFunc(slices.Clone(s.Lists), named), slices.DeleteFunc(slices.Clone(n.Lists), named)
	if !slices.Equal(a, b) {
		t.Fatalf("%s: other lists are %v, not %v", toldMut(m), b, a)
	}
	touched := func(x api.Task) bool {
		switch m.Kind {
		case api.MutList:
			return false
		case api.MutDrop:
			return x.List == m.Id
		case api.MutClear:
			return x.List == m.List && x.Done
		case api.MutSpread:
			return x.List == m.List
		}
		return x.Id == m.Id
	}
	tasks := func(l []api.Task) string {
		return told(api.State{Tasks: slices.DeleteFunc(slices.Clone(l), touched)})
	}
	if a, b := tasks(s.Tasks), tasks(n.Tasks); a != b {
		t.Fatalf("%s: other tasks are\n%s, not\n%s", toldMut(m), b, a)
	}
	for _, x := range n.Tasks {
		if was, is := task.Find(s, x.Id); is && touched(x) {
			mustLeaveFields(t, was, x, m)
		}
	}
}

// mustLeaveFields asks that a task which m names has all fields that m doesn't speak of as they were.
func mustLeaveFields(t *testing.T, was, is api.Task, m api.Mut) {
	t.Helper()
	spoken := map[int][]string{
		api.MutEdit: {"Title"}, api.MutDone: {"Done"}, api.MutMove: {"List", "Rank"}, api.MutRank: {"Rank"}, api.MutSpread: {"Rank"},
		api.MutEst: {"Est"}, api.MutTag: {"Tags"}, api.MutUntag: {"Tags"},
	}[m.Kind]
	for field, same := range map[string]bool{
		"Id": was.Id == is.Id, "List": was.List == is.List, "Title": was.Title == is.Title, "Done": was.Done == is.Done,
		"Rank": bits(was.Rank) == bits(is.Rank), "Est": bits(was.Est) == bits(is.Est), "Tags": slices.Equal(was.Tags, is.Tags),
	} {
		if !same && !slices.Contains(spoken, field) {
			t.Fatalf("%s: the %s of a task: %s, not %s", toldMut(m), field, toldTask(is), toldTask(was))
		}
	}
}

// walk is a way through states, one mutation behind the other.
type walk struct {
	r     func(n int) int
	s     api.State
	ids   []uint64 // of tasks and lists, put in or not
	kinds []int    // each as often as it shall be likely
	found found
}

// listId and taskId are of one that is there about every other time.
func (w *walk) listId() uint64 {
	if len(w.s.Lists) > 0 && w.r(2) == 0 {
		return oneOf(w.r, w.s.Lists).Id
	}
	return oneOf(w.r, w.ids)
}

func (w *walk) taskId() uint64 {
	if len(w.s.Tasks) > 0 && w.r(2) == 0 {
		return oneOf(w.r, w.s.Tasks).Id
	}
	return oneOf(w.r, w.ids)
}

// mutation is one that Check passes mostly.
func (w *walk) mutation() api.Mut {
	kind := oneOf(w.r, w.kinds)
	x := rows()[slices.IndexFunc(rows(), func(x row) bool { return x.kind == kind })]
	m := api.Mut{Kind: kind}
	switch x.id {
	case "list":
		m.Id = w.listId()
	case "task":
		m.Id = w.taskId()
	}
	if x.list != "" {
		m.List = w.listId()
	}
	if x.text != "" {
		m.Text = oneOf(w.r, []string{"-", "0", "a", "b", "b0", "c", "z"})
	}
	if x.f != "" {
		m.F = oneOf(w.r, numbers())
	}
	m.Flag = x.flag && w.r(3) > 0
	if w.r(30) == 0 {
		m = w.spoilt(m)
	}
	return m
}

// spoilt is m with one thing that may be wrong then.
func (w *walk) spoilt(m api.Mut) api.Mut {
	switch w.r(6) {
	case 0:
		m.Kind = oneOf(w.r, noKinds())
	case 1:
		m.Id = 0
	case 2:
		m.List = 0
	case 3:
		m.Text = oneOf(w.r, []string{"", "A", "\n"})
	case 4:
		m.F = oneOf(w.r, append(unclean(), theNaN))
	case 5:
		m.Flag = !m.Flag
	}
	return m
}

// step applies one, and asks that what Apply tells is what the document tells.
func (w *walk) step(t *testing.T, m api.Mut) {
	t.Helper()
	err := mutate.Check(m)
	if err == api.OK {
		err = refused(w.s, m)
		w.found[m.Kind][err]++
	}
	if err != api.OK {
		mustRefuse(t, "on the walk", w.s, m, err)
		return
	}
	mustApply(t, "on the walk", w.s, m, expected(w.s, m))
	n, _ := mutate.Apply(w.s, m)
	if e := task.Right(n); e != api.OK {
		t.Fatalf("%s: what is told isn't Right: %d: %s", toldMut(m), e, told(n))
	}
	mustLeave(t, w.s, n, m)
	w.s = n
}

// found counts what mutations that Check passes came to, by Kind.
type found map[int]map[api.Errno]int

func newFound() found {
	f := found{}
	for _, kind := range kinds() {
		f[kind] = map[api.Errno]int{}
	}
	return f
}

// mustHold asks that each Kind came to each of its errors, and to OK, some times.
func (f found) mustHold(t *testing.T) {
	t.Helper()
	for kind, errs := range map[int][]api.Errno{
		api.MutList: {api.ErrThere, api.ErrMany}, api.MutDrop: {api.ErrList}, api.MutMake: {api.ErrThere, api.ErrList, api.ErrMany},
		api.MutEdit: {api.ErrTask}, api.MutDone: {api.ErrTask}, api.MutMove: {api.ErrTask, api.ErrList}, api.MutRank: {api.ErrTask}, api.MutEst: {api.ErrTask},
		api.MutTag: {api.ErrTask, api.ErrThere, api.ErrMany}, api.MutUntag: {api.ErrTask, api.ErrNone}, api.MutDelete: {api.ErrTask},
		api.MutClear: {api.ErrList}, api.MutSpread: {api.ErrList},
	} {
		for _, e := range append(errs, api.OK) {
			if f[kind][e] < 5 {
				t.Errorf("Kind %d came to %d but %d times", kind, e, f[kind][e])
			}
		}
	}
}

// steps goes on by mutations of these Kinds, each as likely as it stands there often.
func (w *walk) steps(t *testing.T, n int, kinds ...int) {
	t.Helper()
	w.kinds = kinds
	for range n {
		w.step(t, w.mutation())
	}
}

// P11.2, P11.4, P11.5: many mutations one behind the other, from nothing on, with few Ids and many, as the document tells them; Right each time, and nothing else changed.
func TestWalks(t *testing.T) {
	f := newFound()
	for seed := range uint64(9) {
		w := walk{r: random(seed), ids: []uint64{greatest, 1 << 63, 1 << 32, math.MaxInt64}, found: f}
		few := seed%3 == 0
		for i := range uint64(130) {
			if !few || i < 6 {
				w.ids = append(w.ids, 1+i*7)
			}
		}
		if few {
			w.steps(t, 1000, slices.Concat(kinds(), slices.Repeat([]int{api.MutMake, api.MutTag}, 8))...)
		} else {
			// Without what takes away, as there would never be 20 lists and 60 tasks else.
			gone := func(kind int) bool { return kind == api.MutDrop || kind == api.MutClear || kind == api.MutDelete }
			more := slices.Repeat([]int{api.MutList, api.MutMake, api.MutMake, api.MutMake, api.MutTag}, 8)
			w.steps(t, 1000, append(slices.DeleteFunc(kinds(), gone), more...)...)
		}
		w.steps(t, 200, api.MutClear)
		w.steps(t, 200, api.MutDelete)
		w.steps(t, 200, api.MutDrop)
	}
	f.mustHold(t)
}

// randomIds are up to so many of l, rising.
func randomIds(r func(n int) int, l []uint64, most int) []uint64 {
	var ids []uint64
	for range most {
		ids = append(ids, oneOf(r, l))
	}
	slices.Sort(ids)
	return slices.Compact(ids)
}

// randomRight is a Right state with these Ids.
func randomRight(r func(n int) int, ids []uint64) api.State {
	var s api.State
	for _, id := range randomIds(r, ids, r(mostLists+1)) {
		s.Lists = append(s.Lists, api.List{Id: id, Name: oneOf(r, []string{"a", "b", "a b", "~"})})
	}
	if len(s.Lists) == 0 {
		return s
	}
	for _, id := range randomIds(r, ids, r(mostTasks+1)) {
		x := api.Task{Id: id, List: oneOf(r, s.Lists).Id, Title: oneOf(r, []string{"a", "b", "A", " "}), Done: r(2) == 1}
		x.Rank, x.Est = oneOf(r, numbers()), oneOf(r, append(numbers(), theNaN))
		for range r(mostTags + 1) {
			x.Tags = append(x.Tags, oneOf(r, []string{"-", "0", "a", "b", "b0", "c", "z"}))
		}
		slices.Sort(x.Tags)
		x.Tags = slices.Compact(x.Tags)
		s.Tasks = append(s.Tasks, x)
	}
	return s
}

// P11.2, P11.4, P11.5: each Kind on many made-up states, which no mutations have led to.
func TestManyStates(t *testing.T) {
	w := walk{r: random(99), ids: []uint64{1, 2, 3, 4, 5, 6, 7, 8, 255, 256, 1 << 32, 1 << 63, greatest - 1, greatest}, found: newFound()}
	for i := range uint64(40) {
		w.ids = append(w.ids, 10+i)
	}
	for range 600 {
		w.s = randomRight(w.r, w.ids)
		if e := task.Right(w.s); e != api.OK {
			t.Fatal("a made-up state isn't Right:", e)
		}
		w.steps(t, 4, kinds()...)
	}
	for kind, of := range w.found {
		if of[api.OK] < 10 {
			t.Error("Kind", kind, "went well", of[api.OK], "times alone")
		}
	}
}

// P11.5: thing by thing, of each Kind, on a state with something in each field.
func TestNothingElse(t *testing.T) {
	for _, m := range []api.Mut{
		{Kind: api.MutList, Id: 3, Text: "new"}, {Kind: api.MutDrop, Id: 9}, {Kind: api.MutMake, Id: 5, List: 9, Text: "new", F: 1},
		{Kind: api.MutEdit, Id: 4, Text: "new"}, {Kind: api.MutDone, Id: 4}, {Kind: api.MutMove, Id: 4, List: 9, F: -3}, {Kind: api.MutRank, Id: 4, F: -3},
		{Kind: api.MutEst, Id: 4, F: theNaN}, {Kind: api.MutTag, Id: 4, Text: "a"}, {Kind: api.MutUntag, Id: 4, Text: "b"},
		{Kind: api.MutDelete, Id: 4}, {Kind: api.MutClear, List: 2}, {Kind: api.MutSpread, List: 2},
	} {
		n, e := mutate.Apply(mixed(), m)
		if e != api.OK || told(n) == told(mixed()) {
			t.Fatalf("%s: %d, %s", toldMut(m), e, told(n))
		}
		mustLeave(t, mixed(), n, m)
	}
}
