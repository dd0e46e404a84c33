package query_test

import (
	"math"
	"slices"
	"testing"

	"factotum/api"
	"factotum/query"
)

// sorts are the four orders.
func sorts() []int { return []int{query.ByRank, query.ById, query.ByTitle, query.ByEst} }

// backwards are these places the other way round.
func backwards(places []int) []int {
	l := slices.Clone(places)
	slices.Reverse(l)
	return l
}

// mustRunBothWays asks for the tasks of s at these places, and with Down for the same the other way round; of both for each Limit.
func mustRunBothWays(t *testing.T, what string, s api.State, q api.Query, places ...int) {
	t.Helper()
	for _, q.Down = range []bool{false, true} {
		want := places
		if q.Down {
			want = backwards(places)
		}
		q.Limit = 0
		mustRun(t, what, s, q, want...)
		for n := range len(want) + 2 {
			q.Limit = n + 1
			mustRun(t, what, s, q, want[:min(n+1, len(want))]...)
		}
		q.Limit = math.MaxInt
		mustRun(t, what, s, q, want...)
	}
}

// The numbers of the four orders.
func TestSorts(t *testing.T) {
	if !slices.Equal(sorts(), []int{0, 1, 2, 3}) {
		t.Fatal("other numbers:", sorts())
	}
}

// P13.2, P3: of nothing there is nothing.
func TestRunOfNothing(t *testing.T) {
	for what, s := range map[string]api.State{
		"nothing":     {},
		"empty lists": {Lists: []api.List{}, Tasks: []api.Task{}},
		"no tasks":    {Lists: mixed().Lists},
	} {
		for _, sort := range sorts() {
			for done := range 3 {
				mustRunBothWays(t, what, s, api.Query{Sort: sort, Done: done})
				mustRunBothWays(t, what, s, api.Query{Sort: sort, Done: done, Tag: "a"})
			}
		}
	}
	for _, sort := range sorts() {
		mustRunBothWays(t, "a list without tasks", mixed(), api.Query{Sort: sort, List: 5})
		mustRunBothWays(t, "no such Tag", mixed(), api.Query{Sort: sort, Tag: "e"})
	}
}

// P13.2: ErrQuery of each Done, Sort and Limit that may not be, ahead of ErrList.
func TestErrQuery(t *testing.T) {
	for _, s := range []api.State{{}, mixed(), jumbled()} {
		for _, list := range []uint64{0, 2, 5, 3, greatest} {
			for _, n := range []int{-1, -2, -255, -1 << 32, math.MinInt, math.MinInt + 1} {
				mustRefuse(t, "Done below 0", s, api.Query{List: list, Done: n}, api.ErrQuery)
				mustRefuse(t, "no Sort", s, api.Query{List: list, Sort: n}, api.ErrQuery)
				mustRefuse(t, "a Limit below 0", s, api.Query{List: list, Limit: n}, api.ErrQuery)
				mustRefuse(t, "all", s, api.Query{List: list, Done: n, Sort: n, Limit: n, Down: true, Tag: "a"}, api.ErrQuery)
			}
			for _, n := range []int{4, 5, 255, 256, 1 << 32, 1<<32 + 1, math.MaxInt} {
				mustRefuse(t, "Done above 2", s, api.Query{List: list, Done: n}, api.ErrQuery)
				mustRefuse(t, "no Sort", s, api.Query{List: list, Sort: n}, api.ErrQuery)
			}
			mustRefuse(t, "Done above 2", s, api.Query{List: list, Done: 3}, api.ErrQuery)
		}
	}
}

// P13.2: ErrList of a List that isn't there; none of List 0.
func TestErrList(t *testing.T) {
	for _, sort := range sorts() {
		for done := range 3 {
			q := api.Query{Sort: sort, Done: done, Limit: done, Down: done == 1}
			for _, q.List = range []uint64{1, 3, 4, 8, 10, 300, 1 << 40, 78, 2 + 1<<32, 9 + 1<<63, greatest - 1} {
				mustRefuse(t, "no such list", mixed(), q, api.ErrList)
			}
			for _, q.List = range []uint64{1, 2, 5, 9, 78, greatest} {
				mustRefuse(t, "nothing", api.State{}, q, api.ErrList)
				mustRefuse(t, "tasks alone", api.State{Tasks: mixed().Tasks}, q, api.ErrList)
			}
		}
	}
	// A task of a list doesn't make it one; in a state that isn't Right, either.
	mustRefuse(t, "a list of tasks alone", jumbled(), api.Query{List: 4}, api.ErrList)
	mustRunBothWays(t, "each list, also one that isn't there", api.State{Tasks: mixed().Tasks[:2]}, api.Query{}, 1, 0)
	mustRunBothWays(t, "a list 0 plays no part", jumbled(), api.Query{Sort: query.ByTitle, Done: 2}, 0, 8, 7, 2, 5, 3, 4)
}

// P13.2: by List and then Rank; tasks of several lists, alike ones by Id.
func TestByRank(t *testing.T) {
	s := mixed()
	mustRunBothWays(t, "all", s, api.Query{}, 3, 7, 1, 4, 2, 5, 0, 6)
	mustRunBothWays(t, "list 2", s, api.Query{List: 2}, 3, 7, 1, 4)
	mustRunBothWays(t, "list 9", s, api.Query{List: 9}, 2, 5, 0)
	mustRunBothWays(t, "the last list", s, api.Query{List: greatest}, 6)
	mustRunBothWays(t, "done", s, api.Query{Done: 1}, 7, 1, 5)
	mustRunBothWays(t, "not done", s, api.Query{Done: 2}, 3, 4, 2, 0, 6)
	mustRunBothWays(t, "a Tag", s, api.Query{Tag: "b"}, 3, 7, 2, 0)
	mustRunBothWays(t, "all three", s, api.Query{List: 2, Done: 2, Tag: "b"}, 3)
	for i, list := range []uint64{greatest, 1 << 63, 1<<63 - 1, 1 << 32, 2, 1} {
		s.Tasks[i].List = list
	}
	mustRunBothWays(t, "great lists", api.State{Tasks: s.Tasks[:6]}, api.Query{}, 5, 4, 3, 2, 1, 0)
}

// P13.2: by Id, as numbers without a sign.
func TestById(t *testing.T) {
	s := mixed()
	slices.Reverse(s.Tasks)
	mustRunBothWays(t, "all", s, api.Query{Sort: query.ById}, 7, 6, 5, 4, 3, 2, 1, 0)
	mustRunBothWays(t, "list 2", s, api.Query{Sort: query.ById, List: 2}, 6, 4, 3, 0)
	mustRunBothWays(t, "a Tag, done", s, api.Query{Sort: query.ById, Tag: "b", Done: 1}, 0)
	for i, id := range []uint64{greatest, 1, 1 << 63, 1<<63 - 1, 1<<63 + 1, 0, 1 << 32, 10} {
		s.Tasks[i].Id = id
	}
	mustRunBothWays(t, "great Ids", s, api.Query{Sort: query.ById}, 5, 1, 7, 6, 3, 2, 4, 0)
}

// P13.2: by Title, byte by byte: one that begins another comes ahead of it.
func TestByTitle(t *testing.T) {
	mustRunBothWays(t, "all", mixed(), api.Query{Sort: query.ByTitle}, 3, 1, 4, 6, 2, 5, 7, 0)
	mustRunBothWays(t, "list 2", mixed(), api.Query{Sort: query.ByTitle, List: 2}, 3, 1, 4, 7)
	rising := []string{
		"", "\x00", "\x00\x00", "\n", " ", " a", "10", "2", "A", "B", "Z", "Za", "a", "a\x00", "a b", "aa", "ab", "b", "z", "~", "~~",
		"\x7f", "\x80", "\xc3", "\xc3\xa4", "ä~", "é", "\xc3\xff", "€", "\xed\xa0\x80", "😀", "\xf8", "\xff", "\xff\x00", "\xff\xff",
	}
	for i, a := range rising {
		for j, b := range rising {
			s := api.State{Tasks: []api.Task{{Id: 1, Title: a}, {Id: 2, Title: b}}}
			want := []int{0, 1}
			if j < i {
				want = []int{1, 0}
			}
			mustRunBothWays(t, "two Titles", s, api.Query{Sort: query.ByTitle}, want...)
			slices.Reverse(s.Tasks)
			mustRunBothWays(t, "two Titles, turned round", s, api.Query{Sort: query.ByTitle}, 1-want[0], 1-want[1])
		}
	}
}

// P13.2: Ranks and Ests of all kinds, two by two, in either order of the state: one NaN, which is least, and one nought.
func TestFloatsTwoByTwo(t *testing.T) {
	for _, f := range floats() {
		for _, g := range floats() {
			s := api.State{Lists: []api.List{{Id: 2}}, Tasks: []api.Task{
				{Id: 10, List: 2, Rank: f, Est: g, Title: "b"}, {Id: 20, List: 2, Rank: g, Est: f, Title: "a"},
			}}
			byRank, byEst := []int{0, 1}, []int{0, 1}
			if less(g, f) {
				byRank = []int{1, 0}
			}
			if less(f, g) {
				byEst = []int{1, 0}
			}
			for _, list := range []uint64{0, 2} {
				mustRunBothWays(t, "two Ranks", s, api.Query{List: list}, byRank...)
				mustRunBothWays(t, "two Ests", s, api.Query{List: list, Sort: query.ByEst}, byEst...)
			}
			slices.Reverse(s.Tasks)
			mustRunBothWays(t, "two Ranks, turned round", s, api.Query{}, 1-byRank[0], 1-byRank[1])
			mustRunBothWays(t, "two Ests, turned round", s, api.Query{Sort: query.ByEst}, 1-byEst[0], 1-byEst[1])
		}
	}
}

// P13.2: by Est, whatever the list, and alike ones by Id.
func TestByEst(t *testing.T) {
	mustRunBothWays(t, "all", mixed(), api.Query{Sort: query.ByEst}, 0, 5, 7, 2, 3, 1, 6, 4)
	mustRunBothWays(t, "list 9", mixed(), api.Query{Sort: query.ByEst, List: 9}, 0, 5, 2)
	mustRunBothWays(t, "not done", mixed(), api.Query{Sort: query.ByEst, Done: 2}, 0, 2, 3, 6, 4)
	var s api.State
	var want []int
	for i, f := range floats() {
		s.Tasks = append(s.Tasks, api.Task{Id: uint64(i + 1), Title: "t", Est: f})
		want = append(want, i)
	}
	mustRunBothWays(t, "all kinds", s, api.Query{Sort: query.ByEst}, want...)
	slices.Reverse(s.Tasks)
	mustRunBothWays(t, "all kinds, turned round", s, api.Query{Sort: query.ByEst}, backwards(want)...)
}

// P13.2: those that are alike come by Id, and with Down by Id the other way round, in each order.
func TestAlikeById(t *testing.T) {
	ids := []uint64{7, greatest, 3, 1 << 63, 1, 1<<63 - 1, 4}
	for _, noughts := range []float64{minusZero, 0} {
		for _, nan := range nans() {
			var s api.State
			for i, id := range ids {
				x := api.Task{Id: id, List: 2, Title: "t", Rank: 0, Est: theNaN}
				if i%2 == 0 {
					x.Rank, x.Est = noughts, nan
				}
				s.Tasks = append(s.Tasks, x)
			}
			for _, sort := range sorts() {
				mustRunBothWays(t, "alike", s, api.Query{Sort: sort}, 4, 2, 6, 0, 5, 3, 1)
			}
		}
	}
}

// P13.2: tasks with one Id, which are in no Right state, all come: alike ones in the state's order, and with Down the other way round.
func TestIdsTwice(t *testing.T) {
	for _, n := range []int{2, 3, 11, 13, 40, 200} {
		var s api.State
		var want []int
		for i := range n {
			s.Tasks = append(s.Tasks, api.Task{Id: 5, List: 2, Title: "t", Done: i%2 == 0, Tags: []string{string(rune('a' + i%26))}})
			want = append(want, i)
		}
		for _, sort := range sorts() {
			for _, down := range []bool{false, true} {
				if down {
					want = backwards(want)
				}
				for _, limit := range []int{0, 1, n / 2, n - 1, n, n + 1} {
					kept := n
					if limit > 0 {
						kept = min(n, limit)
					}
					mustRun(t, "one Id", s, api.Query{Sort: sort, Down: down, Limit: limit}, want[:kept]...)
				}
			}
			want = backwards(want)
		}
	}
}

// P13.2: a state that isn't Right: each task as it stands there, its floats to the bit.
func TestRunOfJumbledState(t *testing.T) {
	s := jumbled()
	mustRunBothWays(t, "by Rank", s, api.Query{}, 7, 5, 2, 3, 1, 0, 9, 4, 6, 8)
	mustRunBothWays(t, "by Id", s, api.Query{Sort: query.ById}, 5, 3, 7, 1, 6, 8, 4, 0, 2, 9)
	mustRunBothWays(t, "by Title", s, api.Query{Sort: query.ByTitle}, 0, 9, 6, 8, 7, 2, 5, 3, 1, 4)
	mustRunBothWays(t, "by Est", s, api.Query{Sort: query.ByEst}, 7, 0, 9, 6, 8, 3, 1, 5, 2, 4)
	mustRunBothWays(t, "list 2", s, api.Query{List: 2}, 5, 2, 3, 1, 0, 9)
	mustRunBothWays(t, "list 9", s, api.Query{List: 9}, 6, 8)
	mustRunBothWays(t, "done", s, api.Query{Done: 1}, 1, 9, 6)
	mustRunBothWays(t, "a Tag", s, api.Query{Tag: "a", Sort: query.ByTitle}, 0, 6)
	mustRunBothWays(t, "a Tag, often", s, api.Query{Tag: "b"}, 5, 0)
}

// P13.2: a list whose Id is there twice, or whose Name is wrong, is one; the least and the greatest Ids, too.
func TestRunOfOddLists(t *testing.T) {
	for _, id := range []uint64{1, 2, 1 << 63, greatest} {
		s := api.State{Lists: []api.List{{Id: 7}, {Id: id, Name: "\n"}, {Id: 3}, {Id: id}}, Tasks: []api.Task{{Id: 1, List: id}, {Id: 2, List: 3}, {Id: 3, List: id, Rank: -1}}}
		mustRunBothWays(t, "an odd list", s, api.Query{List: id}, 2, 0)
	}
}

// P13.2: more tasks than a Right state has, with Limits.
func TestRunOfVeryMany(t *testing.T) {
	const n = 3000
	s := api.State{Lists: []api.List{{Id: 2}}}
	for i := range n {
		k := i * 7 % n
		s.Tasks = append(s.Tasks, api.Task{Id: uint64(k), List: uint64(k / 500), Title: string(rune('a' + k*26/n)), Rank: float64(k % 500 / 3), Est: float64(k / 10)})
	}
	for _, sort := range sorts() {
		for _, limit := range []int{0, 1, 1000, n - 1, n, n + 1} {
			up, e := query.Run(s, api.Query{Sort: sort, Limit: limit})
			down, f := query.Run(s, api.Query{Sort: sort, Limit: limit, Down: true})
			want := min(n, limit)
			if limit == 0 {
				want = n
			}
			if e != api.OK || f != api.OK || len(up) != want || len(down) != want {
				t.Fatal("Sort", sort, "Limit", limit, "tells", e, f, len(up), len(down))
			}
			for i := range want {
				if up[i].Id != uint64(i) || down[i].Id != uint64(n-1-i) {
					t.Fatal("Sort", sort, "Limit", limit, "has", up[i].Id, down[i].Id, "at", i)
				}
			}
		}
	}
}

// P2: tasks that share their Tags with each other, in what is handed in, don't in what is told.
func TestTagsAreNotShared(t *testing.T) {
	shared := []string{"a", "b", "c"}
	var s api.State
	for i := range uint64(5) {
		s.Tasks = append(s.Tasks, api.Task{Id: i + 1, Tags: shared[:2]})
	}
	for _, sort := range sorts() {
		for _, limit := range []int{0, 4} {
			l, _ := query.Run(s, api.Query{Sort: sort, Tag: "b", Limit: limit})
			if len(l) != 5-limit/4 {
				t.Fatal("Run tells", len(l))
			}
			for i := range l {
				l[i].Tags[0] = string(rune('m' + i))
				_ = append(l[i].Tags, "z")
			}
			for i := range l {
				if want := []string{string(rune('m' + i)), "b"}; !slices.Equal(l[i].Tags, want) {
					t.Errorf("the Tags of task %d are %q, not %q", i, l[i].Tags, want)
				}
			}
		}
	}
	if !slices.Equal(shared, []string{"a", "b", "c"}) {
		t.Errorf("what was handed in is %q", shared)
	}
}

// P2: what a caller changes of what was handed in doesn't change what was told.
func TestWhatIsToldStays(t *testing.T) {
	for _, sort := range sorts() {
		for _, limit := range []int{0, 3} {
			s := roomy(mixed())
			l, e := query.Run(s, api.Query{Sort: sort, Limit: limit})
			was := toldTasks(l)
			spoil(s)
			if is := toldTasks(l); e != api.OK || is != was {
				t.Fatalf("%s, not %s", is, was)
			}
		}
	}
}
