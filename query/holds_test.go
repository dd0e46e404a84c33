package query_test

import (
	"math"
	"strings"
	"testing"

	"factotum/api"
	"factotum/query"
)

// P13.1: List is 0, the task's, or another one.
func TestHoldsOfList(t *testing.T) {
	for _, list := range []uint64{1, 2, 9, 1 << 32, 1<<32 + 2, 1 << 63, greatest} {
		for _, asked := range []uint64{1, 2, 3, 8, 9, 10, 1 << 32, 1<<32 + 1, 1<<32 + 2, 1<<63 - 1, 1 << 63, greatest - 1, greatest} {
			mustHold(t, "a list", api.Task{Id: 3, List: list}, api.Query{List: asked}, asked == list)
		}
		mustHold(t, "each list", api.Task{Id: 3, List: list}, api.Query{}, true)
	}
	mustHold(t, "no list", api.Task{Id: 3}, api.Query{}, true)
	mustHold(t, "the task's Id as a list", api.Task{Id: 3, List: 2}, api.Query{List: 3}, false)
}

// P13.1: Done is 0, or 1 and the task is, or 2 and it isn't; of no other Done any task holds.
func TestHoldsOfDone(t *testing.T) {
	for _, is := range []bool{false, true} {
		x := api.Task{Id: 3, List: 2, Done: is}
		mustHold(t, "all", x, api.Query{Done: 0}, true)
		mustHold(t, "done", x, api.Query{Done: 1}, is)
		mustHold(t, "not done", x, api.Query{Done: 2}, !is)
		for _, done := range []int{-1, -2, 3, 4, 5, 255, 256, 257, 258, 1 << 32, 1<<32 + 1, math.MinInt, math.MinInt + 1, math.MaxInt} {
			mustHold(t, "no Done", x, api.Query{Done: done}, false)
			mustHold(t, "no Done, all else", x, api.Query{Done: done, List: 2}, false)
		}
	}
}

// P13.1: Tag is empty, or one of the Tags, wherever it stands.
func TestHoldsOfTag(t *testing.T) {
	x := api.Task{Id: 3, List: 2, Title: "title", Tags: []string{"ab", "bcd", "m-1", "z"}}
	for _, tag := range append([]string{""}, x.Tags...) {
		mustHold(t, "a Tag", x, api.Query{Tag: tag}, true)
	}
	for _, tag := range []string{
		"a", "b", "bc", "cd", "c", "m", "m-", "-1", "abc", "abb", "zz", "z ", " z", "AB", "title", "3", "behind", "abbcd", "ab,bcd", "\x00", "z\x00", strings.Repeat("z", 1000),
	} {
		mustHold(t, "none of the Tags", x, api.Query{Tag: tag}, false)
	}
	for _, tags := range [][]string{nil, {}, {"b"}, {"aa"}, {""}, {"", "A"}, {"b", "c", "d", "e", "f", "g"}} {
		mustHold(t, "other Tags", api.Task{Tags: tags}, api.Query{Tag: "a"}, false)
		mustHold(t, "no Tag is asked for", api.Task{Tags: tags}, api.Query{}, true)
	}
	// A task that isn't Right may have Tags in any order, often, and more than four.
	for i := range 6 {
		many := []string{"z", "", "\xff", "z", "B", "y"}
		many[i] = "a"
		mustHold(t, "Tags that aren't right", api.Task{Tags: many}, api.Query{Tag: "a"}, true)
		mustHold(t, "Tags that aren't right", api.Task{Tags: []string{"z", "\xff", "a"}}, api.Query{Tag: "\xff"}, true)
	}
}

// P13.1: all three together, each way.
func TestHoldsOfAllThree(t *testing.T) {
	x := api.Task{Id: 3, List: 2, Done: true, Tags: []string{"a", "c"}}
	for _, list := range []uint64{0, 2, 3} {
		for _, done := range []int{-1, 0, 1, 2, 3} {
			for _, tag := range []string{"", "a", "b", "c"} {
				want := list != 3 && (done == 0 || done == 1) && tag != "b"
				mustHold(t, "done", x, api.Query{List: list, Done: done, Tag: tag}, want)
				y := x
				y.Done = false
				want = list != 3 && (done == 0 || done == 2) && tag != "b"
				mustHold(t, "not done", y, api.Query{List: list, Done: done, Tag: tag}, want)
			}
		}
	}
}

// P13.1: Sort, Down and Limit play no part, nor the task's other fields.
func TestHoldsOfTheRest(t *testing.T) {
	for _, q := range []api.Query{
		{Sort: query.ById}, {Sort: query.ByTitle}, {Sort: query.ByEst}, {Sort: -1}, {Sort: 4}, {Sort: math.MaxInt}, {Down: true},
		{Limit: 1}, {Limit: -1}, {Limit: math.MinInt}, {Limit: math.MaxInt}, {Sort: 9, Down: true, Limit: -9},
	} {
		for _, f := range floats() {
			for _, title := range []string{"", "title", "\xff\n"} {
				x := api.Task{Id: 3, List: 2, Title: title, Rank: f, Est: f, Tags: []string{"a"}}
				q.List, q.Done, q.Tag = 2, 2, "a"
				mustHold(t, "the rest", x, q, true)
				q.Done = 1
				mustHold(t, "the rest", x, q, false)
			}
		}
	}
}
