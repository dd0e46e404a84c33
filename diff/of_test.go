package diff_test

import (
	"math"
	"slices"
	"testing"

	"factotum/api"
	"factotum/diff"
	"factotum/task"
)

// P12.1: nothing and something, both ways round.
func TestOfNothing(t *testing.T) {
	s := mixed()
	mustOf(t, "nothing", api.State{}, api.State{}, api.Patch{})
	mustOf(t, "nothing", api.State{Lists: []api.List{}}, api.State{Tasks: []api.Task{}}, api.Patch{})
	mustOf(t, "all comes", api.State{}, s, api.Patch{Lists: s.Lists, Tasks: s.Tasks})
	mustOf(t, "all goes", s, api.State{}, api.Patch{GoneLists: []uint64{2, 7, 1 << 40}, GoneTasks: []uint64{3, 4, 7, 300, greatest}})
	l := api.State{Lists: s.Lists}
	mustOf(t, "lists come", api.State{}, l, api.Patch{Lists: s.Lists})
	mustOf(t, "lists go", l, api.State{}, api.Patch{GoneLists: []uint64{2, 7, 1 << 40}})
	mustOf(t, "tasks come", l, s, api.Patch{Tasks: s.Tasks})
	mustOf(t, "tasks go", s, l, api.Patch{GoneTasks: []uint64{3, 4, 7, 300, greatest}})
	m := api.State{Tasks: s.Tasks}
	mustOf(t, "lists for tasks", l, m, api.Patch{GoneLists: []uint64{2, 7, 1 << 40}, Tasks: s.Tasks})
	mustOf(t, "tasks for lists", m, l, api.Patch{Lists: s.Lists, GoneTasks: []uint64{3, 4, 7, 300, greatest}})
}

// P12.1, P12.4: a state and itself, and one that is alike in memory of its own.
func TestOfItself(t *testing.T) {
	for _, s := range []api.State{mixed(), filled(1, 0), filled(1, 1), filled(mostLists, mostTasks), filled(300, 900)} {
		mustOf(t, "itself", s, s, api.Patch{})
		mustOf(t, "itself", s, but(s, func(*api.State) {}), api.Patch{})
		mustHave(t, "itself", diff.Of(s, s), 0)
	}
}

// P12.1: one list or one task more or less: first, amid and last.
func TestOfOneMore(t *testing.T) {
	s := mixed()
	for i, l := range s.Lists {
		less := but(s, func(s *api.State) { s.Lists = slices.Delete(s.Lists, i, i+1) })
		mustOf(t, "a list more", less, s, api.Patch{Lists: []api.List{l}})
		mustOf(t, "a list less", s, less, api.Patch{GoneLists: []uint64{l.Id}})
		mustHave(t, "a list more", diff.Of(less, s), 1)
		mustHave(t, "a list less", diff.Of(s, less), 1)
	}
	for i, x := range s.Tasks {
		less := but(s, func(s *api.State) { s.Tasks = slices.Delete(s.Tasks, i, i+1) })
		mustOf(t, "a task more", less, s, api.Patch{Tasks: []api.Task{x}})
		mustOf(t, "a task less", s, less, api.Patch{GoneTasks: []uint64{x.Id}})
		mustHave(t, "a task more", diff.Of(less, s), 1)
		mustHave(t, "a task less", diff.Of(s, less), 1)
	}
	for i, x := range s.Tasks {
		for j, y := range s.Tasks {
			if i == j {
				continue
			}
			a := api.State{Lists: s.Lists, Tasks: []api.Task{x}}
			b := api.State{Lists: s.Lists, Tasks: []api.Task{y}}
			mustOf(t, "one for another", a, b, api.Patch{Tasks: []api.Task{y}, GoneTasks: []uint64{x.Id}})
		}
	}
}

// changesOfTasks are of one field each.
func changesOfTasks() map[string]func(x *api.Task) {
	return map[string]func(x *api.Task){
		"List":         func(x *api.Task) { x.List = 7 },
		"a List 0":     func(x *api.Task) { x.List = 0 },
		"a high List":  func(x *api.Task) { x.List += 1 << 32 },
		"Title":        func(x *api.Task) { x.Title += "s" },
		"no Title":     func(x *api.Task) { x.Title = "" },
		"Title's case": func(x *api.Task) { x.Title = "E" + x.Title[1:] },
		"Done":         func(x *api.Task) { x.Done = !x.Done },
		"Rank":         func(x *api.Task) { x.Rank = 5 },
		"a near Rank":  func(x *api.Task) { x.Rank = math.Nextafter(x.Rank, 9) },
		"Est":          func(x *api.Task) { x.Est = 5 },
		"no Tags":      func(x *api.Task) { x.Tags = []string{} },
		"a Tag more":   func(x *api.Task) { x.Tags = append(x.Tags, "zzz") },
		"another Tag":  func(x *api.Task) { x.Tags = append(x.Tags[:len(x.Tags)-1], "zzz") },
		"a Tag ahead":  func(x *api.Task) { x.Tags = append([]string{"!"}, x.Tags...) },
	}
}

// P12.1: one field each of a list and of a task; the whole task is told, as it is in b.
func TestOfOneField(t *testing.T) {
	s := mixed()
	for i := range s.Lists {
		for _, name := range []string{"", "foods", "Food", "\xff"} {
			b := but(s, func(s *api.State) { s.Lists[i].Name = name })
			mustOf(t, "a Name", s, b, api.Patch{Lists: b.Lists[i : i+1 : i+1]})
			mustOf(t, "a Name", b, s, api.Patch{Lists: s.Lists[i : i+1 : i+1]})
			mustHave(t, "a Name", diff.Of(s, b), 1)
		}
	}
	for what, change := range changesOfTasks() {
		for _, i := range []int{0, 1, 2, 4} {
			b := but(s, func(s *api.State) { change(&s.Tasks[i]) })
			mustOf(t, what, s, b, api.Patch{Tasks: []api.Task{b.Tasks[i]}})
			mustOf(t, what, b, s, api.Patch{Tasks: []api.Task{s.Tasks[i]}})
			mustHave(t, what, diff.Of(s, b), 1)
		}
	}
}

// P12.1: what has several fields of several tasks changed, some of them as those of another one.
func TestOfManyFields(t *testing.T) {
	s := mixed()
	b := but(s, func(s *api.State) {
		s.Lists[0].Name, s.Lists[2].Name = s.Lists[2].Name, s.Lists[0].Name
		s.Tasks[0].Title, s.Tasks[0].Done = "eat", true
		s.Tasks[3].Tags = []string{"b"}
		s.Tasks[4].Id = 5
	})
	mustOf(t, "many", s, b, api.Patch{
		Lists: []api.List{{Id: 2, Name: "work"}, {Id: 1 << 40, Name: "food"}},
		Tasks: []api.Task{
			{Id: 3, List: 1 << 40, Title: "eat", Done: true, Rank: 1, Est: theNaN, Tags: []string{"b", "d"}},
			{Id: 5, List: 2, Title: "eat", Rank: -inf, Est: theNaN, Tags: []string{"home"}},
			{Id: 300, List: 1 << 40, Title: "send", Est: inf, Tags: []string{"b"}},
		},
		GoneTasks: []uint64{greatest},
	})
	mustHave(t, "many", diff.Of(s, b), 6)
}

// P12.1: an Id of a list and the same of a task are two things.
func TestOfListsAndTasksOfOneId(t *testing.T) {
	l, x := []api.List{{Id: 7, Name: "l"}}, []api.Task{{Id: 7, List: 7, Title: "t", Est: 1}}
	mustOf(t, "one Id", api.State{Lists: l}, api.State{Tasks: x}, api.Patch{GoneLists: []uint64{7}, Tasks: x})
	mustOf(t, "one Id", api.State{Tasks: x}, api.State{Lists: l}, api.Patch{GoneTasks: []uint64{7}, Lists: l})
	mustOf(t, "one Id", api.State{Lists: l, Tasks: x}, api.State{Lists: l}, api.Patch{GoneTasks: []uint64{7}})
	mustOf(t, "one Id", api.State{Lists: l, Tasks: x}, api.State{Tasks: x}, api.Patch{GoneLists: []uint64{7}})
}

// P12.1: the order of Tags, and how often each is there, is nothing that is unlike.
func TestOfOrderOfTags(t *testing.T) {
	tagged := func(tags ...string) api.State {
		return but(mixed(), func(s *api.State) { s.Tasks[1].Tags = tags })
	}
	same := []api.State{
		tagged("a", "b", "c"), tagged("a", "c", "b"), tagged("b", "a", "c"), tagged("b", "c", "a"), tagged("c", "a", "b"), tagged("c", "b", "a"),
		tagged("a", "a", "b", "c"), tagged("c", "b", "c", "a", "b", "c", "a"),
	}
	for _, a := range same {
		for _, b := range same {
			mustOf(t, "Tags' order", a, b, api.Patch{})
		}
		for _, tags := range [][]string{{}, {"a"}, {"b", "c"}, {"a", "b", "d"}, {"a", "b", "c", "d"}, {"", "a", "b", "c"}} {
			b := tagged(tags...)
			mustOf(t, "other Tags", a, b, api.Patch{Tasks: []api.Task{b.Tasks[1]}})
			mustOf(t, "other Tags", b, a, api.Patch{Tasks: []api.Task{same[0].Tasks[1]}})
		}
	}
}

// canon is flt.Canon by the words of its chapter.
func canon(f float64) float64 {
	switch {
	case f != f:
		return theNaN
	case f == 0:
		return 0
	}
	return f
}

// P12.1: floats are held against each other by flt.Same: NaNs are one, noughts are one; what is told is Canon.
func TestOfFloats(t *testing.T) {
	all := append(append(numbers(), theNaN), unclean()...)
	fields := map[string]func(x *api.Task, f float64){
		"Rank": func(x *api.Task, f float64) { x.Rank = f },
		"Est":  func(x *api.Task, f float64) { x.Est = f },
	}
	for what, set := range fields {
		with := func(f float64) api.State {
			return but(mixed(), func(s *api.State) { set(&s.Tasks[2], f) })
		}
		for _, f := range all {
			for _, g := range all {
				var want api.Patch
				if bits(canon(f)) != bits(canon(g)) {
					want.Tasks = []api.Task{with(canon(g)).Tasks[2]}
				}
				mustOf(t, what, with(f), with(g), want)
				mustHave(t, what, diff.Of(with(f), with(g)), len(want.Tasks))
			}
		}
	}
}

// P12.1: a task that is new, with floats that aren't Canon and Tags that don't rise, comes as the Canon has it.
func TestOfTellsCanon(t *testing.T) {
	for _, f := range unclean() {
		b := but(mixed(), func(s *api.State) {
			s.Tasks[1] = api.Task{Id: 5, List: 9, Title: "\n", Done: true, Rank: f, Est: f, Tags: []string{"z", "", "a", "z"}}
		})
		mustOf(t, "Canon", mixed(), b, api.Patch{
			Tasks:     []api.Task{{Id: 5, List: 9, Title: "\n", Done: true, Rank: canon(f), Est: canon(f), Tags: []string{"", "a", "z"}}},
			GoneTasks: []uint64{4},
		})
	}
}

// P12.1: states in another order, of which all four come by Id all the same.
func TestOfRises(t *testing.T) {
	at := []uint64{300, 2, greatest, 1 << 63, 0, 1<<63 - 1, 9, 1 << 32, 256, 255}
	rising := []uint64{0, 2, 9, 255, 256, 300, 1 << 32, 1<<63 - 1, 1 << 63, greatest}
	var s api.State
	for _, id := range at {
		s.Lists = append(s.Lists, api.List{Id: id, Name: "l"})
		s.Tasks = append(s.Tasks, api.Task{Id: id, Title: "t"})
	}
	var by api.Patch
	for _, id := range rising {
		by.Lists = append(by.Lists, api.List{Id: id, Name: "l"})
		by.Tasks = append(by.Tasks, api.Task{Id: id, Title: "t"})
	}
	mustOf(t, "all come", api.State{}, s, by)
	mustOf(t, "all go", s, api.State{}, api.Patch{GoneLists: rising, GoneTasks: rising})
	mustOf(t, "turned round", s, turnedRound(s), api.Patch{})
	r := random(1)
	for range 300 {
		m := api.State{Lists: mixedUp(r, s.Lists), Tasks: mixedUp(r, s.Tasks)}
		n := r(len(at) + 1)
		m.Lists, m.Tasks = m.Lists[:n:n], m.Tasks[:n:n]
		mustOf(t, "some come", m, s, wordsOf(m, s))
		mustOf(t, "some go", s, m, wordsOf(s, m))
	}
}

// P12.1: of several of one Id the first alone counts, in a and in b.
func TestOfIdsTwice(t *testing.T) {
	l := func(names ...string) (s api.State) {
		for _, name := range names {
			s.Lists = append(s.Lists, api.List{Id: 3, Name: name})
			s.Tasks = append(s.Tasks, api.Task{Id: 3, Title: name})
		}
		return s
	}
	of := func(name string) api.Patch { return api.Patch{Lists: l(name).Lists, Tasks: l(name).Tasks} }
	mustOf(t, "twice in b", l("a"), l("a", "b"), api.Patch{})
	mustOf(t, "twice in a", l("a", "b"), l("a"), api.Patch{})
	mustOf(t, "twice in both", l("a", "b"), l("a", "c"), api.Patch{})
	mustOf(t, "the second alike", l("a", "b"), l("b"), of("b"))
	mustOf(t, "the second alike", l("a"), l("b", "a"), of("b"))
	mustOf(t, "turned round", l("a", "b"), l("b", "a"), of("b"))
	mustOf(t, "comes twice", api.State{}, l("c", "b", "c"), of("c"))
	mustOf(t, "goes twice", l("c", "b", "c"), api.State{}, api.Patch{GoneLists: []uint64{3}, GoneTasks: []uint64{3}})
}

// P12.1: whatever a and b are, Of is as of their Canon.
func TestOfIsAsOfCanon(t *testing.T) {
	r := random(2)
	sizes := map[int]int{}
	for i := range 1200 {
		few := someIds()[8 : 9+r(15)]
		a, b := anyState(r, few, 1+i%40), anyState(r, few, 1+i%40)
		if r(3) == 0 {
			b = turnedRound(but(a, func(s *api.State) { s.Tasks = append(s.Tasks, b.Tasks...) }))
		}
		mustOf(t, "any", a, b, wordsOf(a, b))
		mustOf(t, "any, Canon of one", task.Canon(a), b, wordsOf(a, b))
		mustOf(t, "any, Canon of one", a, task.Canon(b), wordsOf(a, b))
		mustOf(t, "any, itself in another order", a, task.Canon(a), api.Patch{})
		p := diff.Of(a, b)
		sizes[min(8, len(p.Lists)+len(p.Tasks)+len(p.GoneLists)+len(p.GoneTasks))]++
	}
	for n := range 9 {
		if sizes[n] == 0 {
			t.Errorf("no patch of %d parts", n)
		}
	}
}

// P12.1: Size counts each of the four.
func TestSize(t *testing.T) {
	counts := []int{0, 1, 2, 7, 300}
	for _, lists := range counts {
		for _, tasks := range counts {
			for _, goneLists := range counts {
				for _, goneTasks := range counts {
					s := filled(lists, tasks)
					p := api.Patch{Lists: s.Lists, Tasks: s.Tasks, GoneLists: make([]uint64, goneLists), GoneTasks: make([]uint64, goneTasks)}
					mustHave(t, "made up", p, lists+tasks+goneLists+goneTasks)
				}
			}
		}
	}
}

// P12.1: Size counts what is there twice twice, and what isn't right, too.
func TestSizeOfAnyParts(t *testing.T) {
	mustHave(t, "nothing", api.Patch{}, 0)
	mustHave(t, "nothing", api.Patch{Lists: []api.List{}, Tasks: []api.Task{}, GoneLists: []uint64{}, GoneTasks: []uint64{}}, 0)
	mustHave(t, "noughts", api.Patch{Lists: make([]api.List, 1), Tasks: make([]api.Task, 2), GoneLists: make([]uint64, 3), GoneTasks: make([]uint64, 4)}, 10)
	mustHave(t, "one Id", api.Patch{
		Lists: []api.List{{Id: 1}, {Id: 1}}, Tasks: []api.Task{{Id: 1}, {Id: 1}},
		GoneLists: []uint64{1, 1}, GoneTasks: []uint64{1, 1},
	}, 8)
	r := random(3)
	for range 300 {
		p := anyPatch(r, someIds(), 9)
		mustHave(t, "any", p, len(p.Lists)+len(p.Tasks)+len(p.GoneLists)+len(p.GoneTasks))
	}
}
