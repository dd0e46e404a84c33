package task_test

import (
	"slices"
	"strconv"
	"testing"

	"factotum/api"
	"factotum/task"
)

// mustCanon asks for the Canon of s, that it is its own, and that s stays as it was.
func mustCanon(t *testing.T, what string, s, want api.State) {
	t.Helper()
	mustKeep(t, what, s, func() {
		got := task.Canon(s)
		if !alike(got, want) {
			t.Fatalf("%s: Canon: %s, not %s", what, told(got), told(want))
		}
		if again := task.Canon(got); !alike(again, want) {
			t.Fatalf("%s: Canon of it: %s, not %s", what, told(again), told(want))
		}
	})
}

// P9.2: what is as it should be stays so.
func TestCanonOfRightStates(t *testing.T) {
	for _, s := range []api.State{{}, {Lists: []api.List{}, Tasks: []api.Task{}}, one(plain()), sample(), roomy(sample())} {
		mustCanon(t, "as it should be", s, s)
	}
	r := random(3)
	for range 1000 {
		s := randomRight(r)
		mustCanon(t, "as it should be", s, s)
	}
}

// P9.2: lists and tasks come by Id, of one Id the first alone.
func TestCanonById(t *testing.T) {
	s := api.State{
		Lists: []api.List{{Id: 7, Name: "b"}, {Id: greatest, Name: "d"}, {Id: 2, Name: "a"}, {Id: 7, Name: "a"}, {Id: 0, Name: "c"}, {Id: 2, Name: "a"}},
		Tasks: []api.Task{{Id: 5, Title: "z"}, {Id: 1}, {Id: 5, Title: "a"}, {Id: 0, List: 4}, {Id: greatest}, {Id: 5, Title: "z"}, {Id: 1 << 63}, {Id: 0}},
	}
	mustCanon(t, "by Id", s, api.State{
		Lists: []api.List{{Id: 0, Name: "c"}, {Id: 2, Name: "a"}, {Id: 7, Name: "b"}, {Id: greatest, Name: "d"}},
		Tasks: []api.Task{{Id: 0, List: 4}, {Id: 1}, {Id: 5, Title: "z"}, {Id: 1 << 63}, {Id: greatest}},
	})
	// Of every order of three things, two of them of one Id.
	for _, order := range [][]int{{0, 1, 2}, {0, 2, 1}, {1, 0, 2}, {1, 2, 0}, {2, 0, 1}, {2, 1, 0}} {
		l := []api.List{{Id: 3, Name: "first"}, {Id: 3, Name: "second"}, {Id: 1, Name: "other"}}
		m := []api.Task{{Id: 3, Title: "first"}, {Id: 3, Title: "second"}, {Id: 1, Title: "other"}}
		var s api.State
		name := ""
		for _, i := range order {
			s.Lists, s.Tasks = append(s.Lists, l[i]), append(s.Tasks, m[i])
			if i < 2 && name == "" {
				name = l[i].Name
			}
		}
		mustCanon(t, "every order", s, api.State{
			Lists: []api.List{{Id: 1, Name: "other"}, {Id: 3, Name: name}},
			Tasks: []api.Task{{Id: 1, Title: "other"}, {Id: 3, Title: name}},
		})
	}
}

// P9.2: the first of one Id stays also where there are many, and what isn't Right in other ways stays as it is.
func TestCanonOfMany(t *testing.T) {
	var s, want api.State
	for i := range 3000 {
		name := strconv.Itoa(i)
		s.Lists = append(s.Lists, api.List{Id: uint64(i * 7 % 100), Name: name})
		s.Tasks = append(s.Tasks, api.Task{Id: uint64(i * 11 % 100), Title: name, List: uint64(i)})
	}
	for id := range uint64(100) {
		// 7 * 43 and 11 * 91 are 1 more than hundreds.
		want.Lists = append(want.Lists, api.List{Id: id, Name: strconv.Itoa(int(id * 43 % 100))})
		want.Tasks = append(want.Tasks, api.Task{Id: id, Title: strconv.Itoa(int(id * 91 % 100)), List: id * 91 % 100})
	}
	mustCanon(t, "many", s, want)
	far := api.State{Lists: lists(0, 1000), Tasks: tasks(5000, 0, 2000)}
	far.Lists[3].Name, far.Tasks[4].Title = "", "\x00"
	mustCanon(t, "too many, and wrong", far, far)
	slices.Reverse(far.Lists)
	slices.Reverse(far.Tasks)
	turned := copied(far)
	slices.Reverse(turned.Lists)
	slices.Reverse(turned.Tasks)
	mustCanon(t, "too many, turned round", far, turned)
}

// P9.2: Tags rise, each once, however many.
func TestCanonOfTags(t *testing.T) {
	for _, x := range []struct{ tags, want []string }{
		{nil, nil}, {[]string{}, nil}, {[]string{"a"}, []string{"a"}}, {[]string{""}, []string{""}},
		{[]string{"b", "a"}, []string{"a", "b"}}, {[]string{"a", "a"}, []string{"a"}},
		{[]string{"b", "a", "b"}, []string{"a", "b"}}, {[]string{"a", "b", "a", "b", "a"}, []string{"a", "b"}},
		{[]string{"aa", "b", "a", "-", "9", "A", "~"}, []string{"-", "9", "A", "a", "aa", "b", "~"}},
		{[]string{"\xff", "é", "z", "\x00", ""}, []string{"", "\x00", "z", "é", "\xff"}},
		{[]string{"f", "e", "d", "c", "b", "a", "f", "a"}, []string{"a", "b", "c", "d", "e", "f"}},
	} {
		mustCanon(t, "tags", tagged(x.tags...), tagged(x.want...))
		mustCanon(t, "tags", roomy(tagged(x.tags...)), tagged(x.want...))
	}
}

// P9.2: Rank and Est lose a nought's sign and a NaN's own bits, and nothing else.
func TestCanonOfFloats(t *testing.T) {
	for _, f := range append(numbers(), theNaN) {
		x := plain()
		x.Rank, x.Est = f, f
		mustCanon(t, "floats that are Canon", one(x), one(x))
	}
	for _, f := range append(otherNaNs(), minusZero) {
		x, y := plain(), plain()
		x.Rank, x.Est, y.Rank, y.Est = f, 1, canon(f), 1
		mustCanon(t, "a Rank that isn't Canon", one(x), one(y))
		x.Rank, x.Est, y.Rank, y.Est = -1, f, -1, canon(f)
		mustCanon(t, "an Est that isn't Canon", one(x), one(y))
	}
}

// jumbled is s with things taken again and again, in other orders, changed.
func jumbled(r func(n int) int, s api.State) api.State {
	var j api.State
	for range r(2*len(s.Lists) + 1) {
		l := s.Lists[r(len(s.Lists))]
		l.Name += randomText(r, "xyz", 2)
		j.Lists = append(j.Lists, l)
	}
	floats := append(otherNaNs(), minusZero, 0, 1, theNaN)
	for range r(2*len(s.Tasks) + 1) {
		x := s.Tasks[r(len(s.Tasks))]
		x.Rank, x.Est = floats[r(len(floats))], floats[r(len(floats))]
		tags := append(slices.Clone(x.Tags), "b", "")
		x.Tags = nil
		for range r(8) {
			x.Tags = append(x.Tags, tags[r(len(tags))])
		}
		j.Tasks = append(j.Tasks, x)
	}
	return j
}

// P9.2: many states, in whatever order, held against the chapter's words.
func TestCanonOfJumbledStates(t *testing.T) {
	r := random(4)
	for range 1000 {
		j := jumbled(r, randomRight(r))
		mustCanon(t, "jumbled", j, canonical(j))
		mustCanon(t, "jumbled", roomy(j), canonical(j))
	}
}

// P9.2: an Id that is there, that isn't, of several the first, 0.
func TestFind(t *testing.T) {
	for _, s := range []api.State{sample(), roomy(sample())} {
		for _, want := range s.Tasks {
			mustFind(t, s, want.Id, want, true)
		}
		for _, id := range []uint64{0, 1, 2, 5, 7, 9, 77, 78, 299, greatest - 1} {
			mustFind(t, s, id, api.Task{}, false)
		}
	}
	mustFind(t, api.State{}, 0, api.Task{}, false)
	mustFind(t, api.State{Lists: lists(1, 3)}, 1, api.Task{}, false)
	s := api.State{Tasks: []api.Task{
		{Id: 5, Title: "first", Rank: minusZero, Est: otherNaNs()[5], Tags: []string{"b", "a", "b"}}, {Id: 3}, {Id: 5, Title: "second"},
		{Id: 0, Title: "nought"}, {Id: 3, Title: "second"}, {Id: 0},
	}}
	mustFind(t, s, 5, s.Tasks[0], true)
	mustFind(t, s, 3, s.Tasks[1], true)
	mustFind(t, s, 0, s.Tasks[3], true)
}

func mustFind(t *testing.T, s api.State, id uint64, want api.Task, is bool) {
	t.Helper()
	mustKeep(t, "Find", s, func() {
		if got, ok := task.Find(s, id); ok != is || !alikeTask(got, want) {
			t.Fatalf("Find of %d: %v, %t, not %v, %t", id, got, ok, want, is)
		}
	})
}

// P9.2: the same of lists.
func TestLists(t *testing.T) {
	for _, s := range []api.State{sample(), roomy(sample())} {
		for _, want := range s.Lists {
			mustList(t, s, want.Id, want, true)
		}
		for _, id := range []uint64{0, 1, 3, 4, 8, 10, 77, 78, greatest} {
			mustList(t, s, id, api.List{}, false)
		}
	}
	mustList(t, api.State{}, 0, api.List{}, false)
	mustList(t, api.State{Tasks: tasks(1, 1, 3)}, 1, api.List{}, false)
	s := api.State{Lists: []api.List{{Id: 5, Name: "first"}, {Id: 3}, {Id: 5, Name: "second"}, {Id: 0, Name: "nought"}, {Id: 3, Name: "x"}, {Id: 0}}}
	mustList(t, s, 5, s.Lists[0], true)
	mustList(t, s, 3, s.Lists[1], true)
	mustList(t, s, 0, s.Lists[3], true)
}

func mustList(t *testing.T, s api.State, id uint64, want api.List, is bool) {
	t.Helper()
	mustKeep(t, "Lists", s, func() {
		if got, ok := task.Lists(s, id); ok != is || got != want {
			t.Fatalf("Lists of %d: %v, %t, not %v, %t", id, got, ok, want, is)
		}
	})
}

// mustBeSame asks whether two states are the Same, whichever comes first, and that both stay as they were.
func mustBeSame(t *testing.T, what string, a, b api.State, want bool) {
	t.Helper()
	mustKeep(t, what, a, func() {
		mustKeep(t, what, b, func() {
			if task.Same(a, b) != want || task.Same(b, a) != want {
				t.Fatalf("%s: Same of %s and %s: not %t", what, told(a), told(b), want)
			}
		})
	})
}

// P9.2: a state and itself, nothing and empty lists, what lies behind.
func TestSame(t *testing.T) {
	mustBeSame(t, "nothing", api.State{}, api.State{}, true)
	mustBeSame(t, "nothing", api.State{}, api.State{Lists: []api.List{}, Tasks: []api.Task{}}, true)
	mustBeSame(t, "no Tags", tagged(), tagged([]string{}...), true)
	mustBeSame(t, "itself", sample(), sample(), true)
	mustBeSame(t, "other things behind", sample(), roomy(sample()), true)
	r := random(5)
	for range 500 {
		s := randomRight(r)
		mustBeSame(t, "itself", s, copied(s), true)
		j := jumbled(r, s)
		mustBeSame(t, "itself", j, copied(j), true)
	}
}

// changes are such that each makes one thing alone of the sample another one.
func changes() map[string]func(s *api.State) {
	return map[string]func(s *api.State){
		"a list's Id":           func(s *api.State) { s.Lists[1].Id = 8 },
		"a list's Name":         func(s *api.State) { s.Lists[2].Name = "!" },
		"the lists' order":      func(s *api.State) { s.Lists[0], s.Lists[1] = s.Lists[1], s.Lists[0] },
		"a list less":           func(s *api.State) { s.Lists = s.Lists[:2] },
		"a list more":           func(s *api.State) { s.Lists = append(s.Lists, s.Lists[2]) },
		"no lists":              func(s *api.State) { s.Lists = nil },
		"a task's Id":           func(s *api.State) { s.Tasks[2].Id++ },
		"a task's List":         func(s *api.State) { s.Tasks[2].List = 2 },
		"a task's Title":        func(s *api.State) { s.Tasks[3].Title = "eats" },
		"a task's Done":         func(s *api.State) { s.Tasks[0].Done = true },
		"a task's Rank":         func(s *api.State) { s.Tasks[1].Rank = inf },
		"a task's Rank, a NaN":  func(s *api.State) { s.Tasks[1].Rank = theNaN },
		"a task's Est":          func(s *api.State) { s.Tasks[1].Est = 3 },
		"a task's Est, no NaN":  func(s *api.State) { s.Tasks[0].Est = -inf },
		"a Tag":                 func(s *api.State) { s.Tasks[0].Tags[3] = "b2" },
		"a Tag less":            func(s *api.State) { s.Tasks[0].Tags = s.Tasks[0].Tags[:3] },
		"a Tag more":            func(s *api.State) { s.Tasks[3].Tags = append(s.Tasks[3].Tags, "d") },
		"no Tags":               func(s *api.State) { s.Tasks[2].Tags = nil },
		"the Tags' order":       func(s *api.State) { slices.Reverse(s.Tasks[3].Tags) },
		"the tasks' order":      func(s *api.State) { slices.Reverse(s.Tasks) },
		"a task less":           func(s *api.State) { s.Tasks = s.Tasks[:3] },
		"a task more":           func(s *api.State) { s.Tasks = append(s.Tasks, s.Tasks[3]) },
		"no tasks":              func(s *api.State) { s.Tasks = nil },
		"a task's Est, another": func(s *api.State) { s.Tasks[2].Est = 5e-324 },
	}
}

// P9.2: states that are unlike in one thing alone aren't the Same; nor are two of which each has another thing.
func TestSameOfUnlikeStates(t *testing.T) {
	for what, change := range changes() {
		s := sample()
		change(&s)
		mustBeSame(t, what, s, sample(), false)
		mustBeSame(t, what, s, copied(s), true)
		for other, change := range changes() {
			o := sample()
			change(&o)
			if other != what {
				mustBeSame(t, what+" and "+other, s, o, false)
			}
		}
	}
}

// P9.2: floats are alike but for the sign of a nought or a NaN's bits.
func TestSameOfFloats(t *testing.T) {
	floats := append(append(numbers(), otherNaNs()...), theNaN, minusZero)
	for _, f := range floats {
		for _, g := range floats {
			want := f == g || f != f && g != g
			x, y := plain(), plain()
			x.Rank, y.Rank = f, g
			mustBeSame(t, "Ranks", one(x), one(y), want)
			x, y = plain(), plain()
			x.Est, y.Est = f, g
			mustBeSame(t, "Ests", one(x), one(y), want)
		}
	}
}

// P2: what is told shares nothing with what was handed in, nor with another answer, nor one of its lists with another.
func TestAnswersAreNotShared(t *testing.T) {
	shared := []string{"b", "a", "c"}
	s := roomy(sample())
	s.Tasks[1].Tags, s.Tasks[2].Tags = shared[:2], shared[:3]
	was := wide(s)
	c, d := task.Canon(s), task.Canon(s)
	want := copied(c)
	for i := range d.Tasks {
		_ = append(d.Tasks[i].Tags, "more")
		_ = append(c.Tasks[i].Tags, "more")
	}
	if !alike(c, want) || !alike(d, want) {
		t.Fatal("Canon: one list of an answer shares memory with another")
	}
	spoil(d)
	if !alike(wide(s), was) || !alike(c, want) {
		t.Fatal("Canon: an answer shares memory with what was handed in, or with another answer")
	}
	for _, x := range s.Tasks {
		found, _ := task.Find(s, x.Id)
		again, _ := task.Find(s, x.Id)
		kept := slices.Clone(again.Tags)
		_ = append(found.Tags, "more")
		spoilTags(found)
		if !alike(wide(s), was) || !slices.Equal(again.Tags, kept) {
			t.Fatal("Find: an answer shares memory with what was handed in, or with another answer")
		}
	}
	found, _ := task.Find(s, 3)
	list, _ := task.Lists(s, 7)
	list.Name = "spoilt"
	if !alike(wide(s), was) {
		t.Fatal("Lists: an answer shares memory with what was handed in")
	}
	spoil(s)
	spoilTags(api.Task{Tags: shared})
	if !alike(c, want) || !slices.Equal(found.Tags, sample().Tasks[0].Tags) {
		t.Fatal("what is told hangs on what was handed in")
	}
}
