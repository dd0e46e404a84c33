package diff_test

import (
	"slices"
	"testing"

	"factotum/api"
	"factotum/diff"
)

// list and one are parts; their Name or Title tells of which patch they are.
func list(id uint64, name string) api.List { return api.List{Id: id, Name: name} }

func one(id uint64, title string) api.Task {
	return api.Task{Id: id, List: 2, Title: title, Rank: 1, Est: 2, Tags: []string{"0", title}}
}

// both is a patch of these lists and gone ones, and of tasks of the same Ids and Titles.
func both(lists []api.List, gone ...uint64) api.Patch {
	p := api.Patch{Lists: lists, GoneLists: gone, GoneTasks: slices.Clone(gone)}
	for _, l := range lists {
		p.Tasks = append(p.Tasks, one(l.Id, l.Name))
	}
	return p
}

// P12.3: of patches of nothing.
func TestJoinOfNothing(t *testing.T) {
	p := both([]api.List{list(3, "a"), list(4, "b")}, 5, 6)
	empty := api.Patch{Lists: []api.List{}, Tasks: []api.Task{}, GoneLists: []uint64{}, GoneTasks: []uint64{}}
	for _, none := range []api.Patch{{}, empty} {
		mustJoin(t, "nothing", none, none, api.Patch{})
		mustJoin(t, "nothing ahead", none, p, p)
		mustJoin(t, "nothing behind", p, none, p)
	}
	mustJoin(t, "twice the same", p, p, p)
}

// P12.3: patches that tell of other Ids: all of both, by Id.
func TestJoinOfOtherIds(t *testing.T) {
	p := both([]api.List{list(1, "a"), list(9, "a"), list(greatest, "a")}, 3, 1<<40)
	q := both([]api.List{list(2, "b"), list(1<<63, "b")}, 4, 300)
	want := both([]api.List{list(1, "a"), list(2, "b"), list(9, "a"), list(1<<63, "b"), list(greatest, "a")}, 3, 4, 300, 1<<40)
	mustJoin(t, "other Ids", p, q, want)
	mustJoin(t, "other Ids", q, p, want)
	mustJoin(t, "one of each kind", api.Patch{Lists: p.Lists[:1], GoneTasks: []uint64{1}}, api.Patch{Tasks: q.Tasks[:1], GoneLists: []uint64{2}},
		api.Patch{Lists: p.Lists[:1], Tasks: q.Tasks[:1], GoneLists: []uint64{2}, GoneTasks: []uint64{1}})
}

// P12.3: an Id of a list and the same of a task are two things.
func TestJoinOfListsAndTasksOfOneId(t *testing.T) {
	l, x := []api.List{list(7, "l")}, []api.Task{one(7, "t")}
	mustJoin(t, "parts", api.Patch{Lists: l}, api.Patch{Tasks: x}, api.Patch{Lists: l, Tasks: x})
	mustJoin(t, "a list and a task gone", api.Patch{Lists: l}, api.Patch{GoneTasks: []uint64{7}}, api.Patch{Lists: l, GoneTasks: []uint64{7}})
	mustJoin(t, "a list gone and a task", api.Patch{GoneLists: []uint64{7}}, api.Patch{Tasks: x}, api.Patch{Tasks: x, GoneLists: []uint64{7}})
	mustJoin(t, "both gone", api.Patch{GoneLists: []uint64{7}}, api.Patch{GoneTasks: []uint64{7}}, api.Patch{GoneLists: []uint64{7}, GoneTasks: []uint64{7}})
}

// P12.3: what both tell of one Id: the parts, and whether it is gone, of each written out by hand.
func TestJoinOfOneId(t *testing.T) {
	tells := map[string]api.Patch{
		"nothing":              {},
		"part p":               both([]api.List{list(5, "p")}),
		"part q":               both([]api.List{list(5, "q")}),
		"gone":                 both(nil, 5),
		"gone twice":           both(nil, 5, 5),
		"part p twice":         both([]api.List{list(5, "p"), list(5, "later")}),
		"part q twice":         both([]api.List{list(5, "q"), list(5, "later")}),
		"gone, part p":         both([]api.List{list(5, "p")}, 5),
		"gone, part q":         both([]api.List{list(5, "q")}, 5),
		"gone, part p twice":   both([]api.List{list(5, "p"), list(5, "later")}, 5),
		"gone, part q thrice":  both([]api.List{list(5, "q"), list(5, "later"), list(5, "last")}, 5),
		"gone twice, part q":   both([]api.List{list(5, "q")}, 5, 5),
		"gone twice, p, later": both([]api.List{list(5, "p"), list(5, "later")}, 5, 5),
	}
	for _, x := range [][3]string{
		{"nothing", "nothing", "nothing"},
		{"nothing", "part q", "part q"},
		{"nothing", "gone", "gone"},
		{"nothing", "gone twice", "gone"},
		{"nothing", "part q twice", "part q"},
		{"nothing", "gone, part q", "part q"},
		{"nothing", "gone, part q thrice", "part q"},
		{"part p", "nothing", "part p"},
		{"gone", "nothing", "gone"},
		{"gone twice", "nothing", "gone"},
		{"part p twice", "nothing", "part p"},
		{"gone, part p", "nothing", "part p"},
		{"gone, part p twice", "nothing", "part p"},
		{"gone twice, p, later", "nothing", "part p"},
		{"part p", "part q", "part q"},
		{"part p twice", "part q twice", "part q"},
		{"gone, part p", "part q", "part q"},
		{"part p", "gone, part q", "part q"},
		{"gone, part p twice", "gone, part q thrice", "part q"},
		{"gone", "gone", "gone"},
		{"gone twice", "gone twice", "gone"},
		{"part p", "gone", "gone"},
		{"part p twice", "gone twice", "gone"},
		{"gone, part p", "gone", "gone"},
		{"gone twice, p, later", "gone twice", "gone"},
		{"gone", "part q", "part q"},
		{"gone twice", "part q twice", "part q"},
		{"gone", "gone, part q", "part q"},
		{"gone twice", "gone twice, part q", "part q"},
	} {
		p, q, want := tells[x[0]], tells[x[1]], tells[x[2]]
		what := x[0] + "; then " + x[1]
		mustJoin(t, what, p, q, want)
		mustJoin(t, what+", of lists alone", api.Patch{Lists: p.Lists, GoneLists: p.GoneLists}, api.Patch{Lists: q.Lists, GoneLists: q.GoneLists},
			api.Patch{Lists: want.Lists, GoneLists: want.GoneLists})
		mustJoin(t, what+", of tasks alone", api.Patch{Tasks: p.Tasks, GoneTasks: p.GoneTasks}, api.Patch{Tasks: q.Tasks, GoneTasks: q.GoneTasks},
			api.Patch{Tasks: want.Tasks, GoneTasks: want.GoneTasks})
		amid := func(p api.Patch) api.Patch {
			return api.Patch{
				Lists: slices.Concat([]api.List{list(8, "x")}, p.Lists, []api.List{list(2, "x")}), GoneLists: slices.Concat([]uint64{9}, p.GoneLists, []uint64{1}),
				Tasks: slices.Concat([]api.Task{one(8, "x")}, p.Tasks, []api.Task{one(2, "x")}), GoneTasks: slices.Concat([]uint64{9}, p.GoneTasks, []uint64{1}),
			}
		}
		rising := amid(want)
		slices.Reverse(rising.Lists)
		slices.Reverse(rising.Tasks)
		slices.Reverse(rising.GoneLists)
		slices.Reverse(rising.GoneTasks)
		mustJoin(t, what+", amid others", amid(p), amid(q), rising)
	}
}

// parts are patches that tell each of these things of three Ids, in an order that doesn't rise: 5 ^ 3 of them.
func parts(name string) []api.Patch {
	var all []api.Patch
	for n := range 5 * 5 * 5 {
		var p api.Patch
		for _, id := range []uint64{6, 4, 5} {
			what := n % 5
			n /= 5
			if what == 1 || what == 3 {
				p.Lists = append(p.Lists, list(id, name))
				p.Tasks = append(p.Tasks, one(id, name))
			}
			if what == 4 {
				p.Lists = append(p.Lists, list(id, name), list(id, "later"))
				p.Tasks = append(p.Tasks, one(id, name), one(id, "later"))
			}
			if what == 2 || what == 3 {
				p.GoneLists = append(p.GoneLists, id)
				p.GoneTasks = append(p.GoneTasks, id)
			}
		}
		all = append(all, p)
	}
	return all
}

// P12.3: of three Ids all that both may tell, each with each.
func TestJoinOfThreeIds(t *testing.T) {
	q := parts("q")
	for i, p := range parts("p") {
		for j, q := range q {
			// A third of them in full, as each tells much.
			if (i+j)%3 == 0 {
				mustJoin(t, "three Ids", p, q, wordsJoin(p, q))
			} else if got, want := toldPatch(diff.Join(p, q)), toldPatch(wordsJoin(p, q)); got != want {
				t.Fatalf("Join of\n%s and\n%s:\n%s, not\n%s", toldPatch(p), toldPatch(q), got, want)
			}
		}
	}
}

// P12.3: Ids in any order: each of the four rises by Id.
func TestJoinRises(t *testing.T) {
	at := []uint64{300, 2, greatest, 1 << 63, 0, 1<<63 - 1, 9, 1 << 32, 256, 255}
	rising := []uint64{0, 2, 9, 255, 256, 300, 1 << 32, 1<<63 - 1, 1 << 63, greatest}
	of := func(ids []uint64) (p api.Patch) {
		for _, id := range ids {
			p.Lists, p.Tasks = append(p.Lists, list(id, "l")), append(p.Tasks, one(id, "l"))
		}
		return p
	}
	gone := func(ids []uint64) api.Patch { return api.Patch{GoneLists: ids, GoneTasks: ids} }
	mustJoin(t, "parts", of(at), api.Patch{}, of(rising))
	mustJoin(t, "gone", gone(at), api.Patch{}, gone(rising))
	mustJoin(t, "parts, then gone", of(at), gone(at), gone(rising))
	mustJoin(t, "gone, then parts", gone(at), of(at), of(rising))
	for n := range at {
		mustJoin(t, "parts of both", of(at[:n]), of(at[n:]), of(rising))
		mustJoin(t, "parts of both", of(at[n:]), of(at), of(rising))
		mustJoin(t, "gone of both", gone(at[:n]), gone(at[n:]), gone(rising))
		mustJoin(t, "gone of both", gone(at), gone(at[n:]), gone(rising))
	}
}

// P12.3: a part comes as its patch has it, whole, right or not.
func TestJoinTellsPartsAsTheyAre(t *testing.T) {
	var odd api.Patch
	for i, f := range append(append(unclean(), theNaN), numbers()...) {
		id := uint64(i)
		odd.Lists = append(odd.Lists, list(id, "\xff\n"))
		odd.Tasks = append(odd.Tasks, api.Task{Id: id, List: 99, Title: "\x00", Done: i%2 == 0, Rank: f, Est: f, Tags: []string{"z", "", "z", "a", "B"}})
	}
	mustJoin(t, "ahead", odd, api.Patch{}, odd)
	mustJoin(t, "behind", api.Patch{}, odd, odd)
	mustJoin(t, "in the place of others", both([]api.List{list(0, "a"), list(1, "b")}, 2), odd, odd)
	mustJoin(t, "many", odd, both(nil, greatest), api.Patch{Lists: odd.Lists, Tasks: odd.Tasks, GoneLists: []uint64{greatest}, GoneTasks: []uint64{greatest}})
}

// P12.3: whatever both are, also many times what a state may have.
func TestJoinOfAnyPatches(t *testing.T) {
	r := random(4)
	for i := range 1200 {
		few := someIds()[:1+r(24)]
		p, q := anyPatch(r, few, 1+i%30), anyPatch(r, few, 1+i%30)
		mustJoin(t, "any", p, q, wordsJoin(p, q))
	}
	p, q := diff.Of(filled(200, 700), filled(300, 400)), diff.Of(filled(300, 400), filled(100, 900))
	mustJoin(t, "great ones", p, q, wordsJoin(p, q))
}
