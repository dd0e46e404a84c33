package query_test

import (
	"math"
	"slices"
	"testing"

	"factotum/api"
	"factotum/query"
)

// estimated is a state of tasks with these Ests, the Ids 10, 20, 30, ..
func estimated(l ...float64) api.State {
	s := api.State{Lists: []api.List{{Id: 2, Name: "l"}}}
	for i, f := range l {
		s.Tasks = append(s.Tasks, api.Task{Id: uint64(10 * (i + 1)), List: 2, Title: "t", Rank: float64(-i), Est: f})
	}
	return s
}

// mustSumTo asks for the numbers of tasks with these Ests.
func mustSumTo(t *testing.T, what string, l []float64, known int, sum, low, high float64) {
	t.Helper()
	want := api.Totals{Count: len(l), Known: known, Sum: sum, Least: low, Most: high}
	mustSum(t, what, estimated(l...), api.Query{}, want, api.OK)
	mustSum(t, what, estimated(l...), api.Query{List: 2, Done: 2}, want, api.OK)
}

// Example 1 of the chapter.
func TestExample(t *testing.T) {
	mustSumTo(t, "the example", []float64{1, theNaN, 2}, 2, 3, 1, 2)
}

// P13.3: of no tasks the numbers are 0, but for Least and Most, which there are none of.
func TestSumsOfNothing(t *testing.T) {
	none := api.Totals{Least: theNaN, Most: theNaN}
	for _, s := range []api.State{{}, {Lists: []api.List{}, Tasks: []api.Task{}}, {Lists: mixed().Lists}} {
		for _, sort := range sorts() {
			for done := range 3 {
				mustSum(t, "nothing", s, api.Query{Sort: sort, Done: done, Limit: done}, none, api.OK)
			}
		}
	}
	mustSum(t, "a list without tasks", mixed(), api.Query{List: 5}, none, api.OK)
	mustSum(t, "no such Tag", mixed(), api.Query{Tag: "e"}, none, api.OK)
	mustSum(t, "none that isn't done", mixed(), api.Query{Tag: "bc", Done: 2}, none, api.OK)
}

// P13.3: over the tasks that hold, all numbers.
func TestSums(t *testing.T) {
	s := mixed()
	for _, x := range []struct {
		q    api.Query
		want api.Totals
	}{
		{api.Query{}, api.Totals{Count: 8, Done: 3, Known: 6, Sum: inf, Least: -1, Most: inf}},
		{api.Query{List: 2}, api.Totals{Count: 4, Done: 2, Known: 4, Sum: inf, Least: -1, Most: inf}},
		{api.Query{List: 9}, api.Totals{Count: 3, Done: 1, Known: 1, Sum: 0, Least: 0, Most: 0}},
		{api.Query{List: greatest}, api.Totals{Count: 1, Known: 1, Sum: 2, Least: 2, Most: 2}},
		{api.Query{Done: 1}, api.Totals{Count: 3, Done: 3, Known: 2, Sum: 1, Least: -1, Most: 2}},
		{api.Query{Done: 2}, api.Totals{Count: 5, Known: 4, Sum: inf, Least: 0, Most: inf}},
		{api.Query{Tag: "b"}, api.Totals{Count: 4, Done: 1, Known: 3, Sum: 0, Least: -1, Most: 1}},
		{api.Query{Tag: "bc"}, api.Totals{Count: 1, Done: 1, Sum: 0, Least: theNaN, Most: theNaN}},
		{api.Query{List: 2, Done: 2, Tag: "b"}, api.Totals{Count: 1, Known: 1, Sum: 1, Least: 1, Most: 1}},
	} {
		mustSum(t, "mixed", s, x.q, x.want, api.OK)
		// Sort, Down and Limit play no part.
		for _, x.q.Sort = range sorts() {
			for _, x.q.Limit = range []int{0, 1, 2, 3, 100, math.MaxInt} {
				for _, x.q.Down = range []bool{false, true} {
					mustSum(t, "mixed", s, x.q, x.want, api.OK)
				}
			}
		}
	}
}

// P13.3: Sum adds in the order of the state, whatever Sort, Down and Limit are; these Ests have another sum in most orders.
func TestSumInTheOrderOfTheState(t *testing.T) {
	sums := map[float64]bool{}
	for _, l := range [][]float64{
		{1e100, 1, -1e100, 3}, {1, 1e100, -1e100, 3}, {1e100, -1e100, 1, 3}, {3, 1, 1e100, -1e100}, {-1e100, 3, 1e100, 1}, {0.1, 0.2, 0.3, 0.7}, {0.7, 0.3, 0.2, 0.1},
		{most, most, -most, -most}, {most, -most, most, -most},
	} {
		want := 0.0
		for _, f := range l {
			want += f
		}
		sums[want] = true
		for _, sort := range sorts() {
			for limit := range 6 {
				s := estimated(l...)
				for _, down := range []bool{false, true} {
					q := api.Query{Sort: sort, Down: down, Limit: limit}
					mustSum(t, "an order", s, q, api.Totals{Count: 4, Known: 4, Sum: want, Least: slices.Min(l), Most: slices.Max(l)}, api.OK)
				}
			}
		}
		// Nor by Id, where the Ids fall.
		s := estimated(l...)
		for i := range s.Tasks {
			s.Tasks[i].Id = uint64(10 - i)
		}
		mustSum(t, "falling Ids", s, api.Query{}, api.Totals{Count: 4, Known: 4, Sum: want, Least: slices.Min(l), Most: slices.Max(l)}, api.OK)
	}
	if len(sums) < 6 {
		t.Error("the sums are too few:", sums)
	}
}

// P13.3: NaNs, whatever their bits, aren't known; Least and Most are theNaN, where no Est is.
func TestSumsOfNaNs(t *testing.T) {
	for _, f := range nans() {
		mustSumTo(t, "one NaN", []float64{f}, 0, 0, theNaN, theNaN)
		mustSumTo(t, "a NaN first", []float64{f, 5}, 1, 5, 5, 5)
		mustSumTo(t, "a NaN last", []float64{5, -7, f}, 2, -2, -7, 5)
		mustSumTo(t, "a NaN amid", []float64{5, f, inf}, 2, inf, 5, inf)
	}
	mustSumTo(t, "NaNs alone", nans(), 0, 0, theNaN, theNaN)
	for _, sort := range sorts() {
		mustSum(t, "NaNs alone", estimated(nans()...), api.Query{Sort: sort, Down: true, Limit: 2}, api.Totals{Count: len(nans()), Least: theNaN, Most: theNaN}, api.OK)
	}
}

// P13.3: noughts are told without a sign, infinities as they come.
func TestSumsOfOddNumbers(t *testing.T) {
	mustSumTo(t, "a nought", []float64{0}, 1, 0, 0, 0)
	mustSumTo(t, "a nought with a sign", []float64{minusZero}, 1, 0, 0, 0)
	mustSumTo(t, "noughts with signs", []float64{minusZero, theNaN, minusZero}, 2, 0, 0, 0)
	mustSumTo(t, "a nought as Least", []float64{minusZero, 3}, 2, 3, 0, 3)
	mustSumTo(t, "a nought as Most", []float64{-3, minusZero}, 2, -3, -3, 0)
	mustSumTo(t, "a sum that is nought", []float64{-3, 3}, 2, 0, -3, 3)
	mustSumTo(t, "both infinities", []float64{inf, 1, -inf, 2}, 4, theNaN, -inf, inf)
	mustSumTo(t, "both infinities, turned round", []float64{-inf, inf}, 2, theNaN, -inf, inf)
	mustSumTo(t, "below all", []float64{-inf, most}, 2, -inf, -inf, most)
	mustSumTo(t, "too great", []float64{most, most}, 2, inf, most, most)
	mustSumTo(t, "least", []float64{least, least, -least}, 3, least, -least, least)
	for _, f := range numbers() {
		mustSumTo(t, "one", []float64{f}, 1, clean(f), clean(f), clean(f))
	}
}

// P13.3: tasks with one Id, which are in no Right state, count each.
func TestSumsOfJumbledState(t *testing.T) {
	s := jumbled()
	mustSum(t, "all", s, api.Query{}, api.Totals{Count: 10, Done: 3, Known: 7, Sum: theNaN, Least: -inf, Most: inf}, api.OK)
	mustSum(t, "list 2", s, api.Query{List: 2}, api.Totals{Count: 6, Done: 2, Known: 4, Sum: 8, Least: 0, Most: 4}, api.OK)
	mustSum(t, "list 9", s, api.Query{List: 9}, api.Totals{Count: 2, Done: 1, Known: 2, Sum: -inf, Least: -inf, Most: -inf}, api.OK)
	mustSum(t, "a Tag, often", s, api.Query{Tag: "b"}, api.Totals{Count: 2, Known: 1, Sum: 4, Least: 4, Most: 4}, api.OK)
	mustSum(t, "one Id", api.State{Tasks: slices.Repeat([]api.Task{{Id: 5, Est: 2, Done: true}}, 100)}, api.Query{Done: 1, Limit: 1},
		api.Totals{Count: 100, Done: 100, Known: 100, Sum: 200, Least: 2, Most: 2}, api.OK)
}

// P13.3: a wrong Sort or Limit is ErrQuery, though they play no part, ahead of ErrList.
func TestSumsErrors(t *testing.T) {
	for _, q := range []api.Query{{Sort: -1}, {Sort: 4}, {Limit: -1}, {Done: -1}, {Done: 3}, {Sort: math.MaxInt}, {Limit: math.MinInt}} {
		for _, q.List = range []uint64{0, 2, 3} {
			mustSum(t, "ErrQuery", mixed(), q, api.Totals{}, api.ErrQuery)
			mustSum(t, "ErrQuery", api.State{}, q, api.Totals{}, api.ErrQuery)
		}
	}
	for _, q := range []api.Query{{}, {Sort: query.ByEst, Down: true}, {Limit: 1}, {Done: 1}, {Done: 2, Tag: "b"}, {Limit: math.MaxInt}} {
		q.List = 3
		mustSum(t, "ErrList", mixed(), q, api.Totals{}, api.ErrList)
		q.List = 0
		if _, e := query.Sums(api.State{}, q); e != api.OK {
			t.Errorf("Sums of nothing, %+v: %d", q, e)
		}
	}
}
