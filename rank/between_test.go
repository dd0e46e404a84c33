package rank_test

import (
	"math"
	"slices"
	"testing"

	"factotum/api"
	"factotum/flt"
	"factotum/rank"
)

// P10.2: a list that isn't there, whatever `after` is.
func TestBetweenOfNoList(t *testing.T) {
	for _, after := range []uint64{0, 3, 4, 5, greatest} {
		for _, list := range []uint64{0, 1, 2, 9, greatest} {
			mustBetween(t, "nothing", api.State{}, list, after, 0, api.ErrList)
			mustBetween(t, "tasks alone", api.State{Tasks: mixed().Tasks}, list, after, 0, api.ErrList)
			mustBetween(t, "tasks alone", roomy(api.State{Tasks: mixed().Tasks}), list, after, 0, api.ErrList)
		}
		for _, list := range []uint64{0, 1, 3, 4, 77, greatest} {
			mustBetween(t, "mixed", mixed(), list, after, 0, api.ErrList)
			mustBetween(t, "mixed", roomy(mixed()), list, after, 0, api.ErrList)
		}
	}
	mustBetween(t, "tasks of no list", jumbled(), 4, 6, 0, api.ErrList)
	mustBetween(t, "tasks of no list", jumbled(), 4, 0, 0, api.ErrList)
}

// P10.2: an `after` that isn't there, or is a task of another list.
func TestBetweenOfNoTask(t *testing.T) {
	for list, l := range map[uint64][]uint64{
		2: {1, 2, 3, 5, 6, 9, 78, 300, greatest - 1}, 5: {1, 3, 4, 5, 78, greatest}, 9: {1, 4, 7, 8, 9, 299, greatest},
	} {
		for _, after := range l {
			mustBetween(t, "mixed", mixed(), list, after, 0, api.ErrTask)
			mustBetween(t, "mixed", roomy(mixed()), list, after, 0, api.ErrTask)
		}
	}
	// Ahead of ErrRank.
	mustBetween(t, "no room", ranked(-inf, inf), 2, 11, 0, api.ErrTask)
	mustBetween(t, "NaNs", ranked(theNaN, theNaN), 2, 1, 0, api.ErrTask)
}

// P10.2: a list without tasks, whatever others have.
func TestBetweenOfEmptyList(t *testing.T) {
	mustBetween(t, "mixed", mixed(), 5, 0, 0, api.OK)
	mustBetween(t, "mixed", roomy(mixed()), 5, 0, 0, api.OK)
	mustBetween(t, "one list", api.State{Lists: []api.List{{Id: greatest, Name: "l"}}}, greatest, 0, 0, api.OK)
	mustBetween(t, "no room elsewhere", ranked(-inf, theNaN), 5, 0, 0, api.OK)
	mustBetween(t, "a list 0", jumbled(), 0, 0, 0, api.OK)
	mustBetween(t, "a list 0", jumbled(), 0, 8, 0, api.ErrTask)
}

// P10.2: ranks written out, between two tasks (told by a separate script that goes by the words of flt's chapter).
func TestBetweenOfTwo(t *testing.T) {
	for _, x := range []struct{ low, high, want float64 }{
		{1, 2, 1.5}, {2, 4, 3}, {-2, -1, -1.5}, {-1, 1, 0}, {0, 1, 1.118751109680031e-154}, {-1, 0, -1.118751109680031e-154},
		{-3, 5, 8.344026969402005e-309}, {1e9, 1e10, 3.25e9}, {minusZero, 1, 1.118751109680031e-154}, {-1, minusZero, -1.118751109680031e-154},
		{-least, least, 0}, {0, 2 * least, least}, {minusZero, 2 * least, least}, {0, 3 * least, 2 * least}, {-2 * least, minusZero, -least},
		{1, next(next(1)), next(1)}, {1, next(next(next(1))), next(next(1))}, {-inf, inf, 0}, {-most, most, 0},
		{1, inf, 0x1p512}, {-inf, 1, -0x1p-511}, {-inf, -1, -0x1p512}, {-1, inf, 0x1p-511}, {0, inf, 1.5}, {-inf, 0, -1.5},
		{least, inf, next(1.5)}, {-inf, least, math.Nextafter(-1.5, 0)},
	} {
		mustBetween(t, "room between", ranked(x.low, x.high), 2, 10, x.want, api.OK)
		mustBetween(t, "room between, other Ids", ranked(x.high, x.low), 2, 20, x.want, api.OK)
		mustBetween(t, "room amid", ranked(-inf, x.low, x.high, inf), 2, 20, x.want, api.OK)
	}
}

// P10.2: the same ahead of the first one and behind the last one.
func TestBetweenAtTheEnds(t *testing.T) {
	for _, x := range []struct{ rank, ahead, behind float64 }{
		{0, -1.5, 1.5}, {minusZero, -1.5, 1.5}, {1, -0x1p-511, 0x1p512}, {-1, -0x1p512, 0x1p-511},
		{least, math.Nextafter(-1.5, 0), next(1.5)}, {-least, -1.5, 1.5},
	} {
		mustBetween(t, "ahead of one", ranked(x.rank), 2, 0, x.ahead, api.OK)
		mustBetween(t, "behind one", ranked(x.rank), 2, 10, x.behind, api.OK)
		mustBetween(t, "ahead of many", ranked(inf, x.rank, most, x.rank), 2, 0, x.ahead, api.OK)
		mustBetween(t, "behind many", ranked(x.rank, -most, x.rank, -inf), 2, 30, x.behind, api.OK)
	}
	// The greatest numbers but one have no more than the greatest on their other side.
	great := math.Nextafter(most, 0)
	mustBetween(t, "behind the greatest but one", ranked(great), 2, 10, most, api.OK)
	mustBetween(t, "ahead of the least but one", ranked(-great), 2, 0, -most, api.OK)
}

// P10.2: where there is no number between.
func TestBetweenWithoutRoom(t *testing.T) {
	for _, f := range []float64{most, inf, theNaN, otherNaN} {
		mustBetween(t, "behind the last one", ranked(f), 2, 10, 0, api.ErrRank)
	}
	for _, f := range []float64{-most, -inf, theNaN, otherNaN} {
		mustBetween(t, "ahead of the first one", ranked(f), 2, 0, 0, api.ErrRank)
		mustBetween(t, "ahead of the first one", ranked(1, f, inf), 2, 0, 0, api.ErrRank)
	}
	for _, l := range [][2]float64{
		{1, 1}, {0, 0}, {minusZero, 0}, {0, minusZero}, {inf, inf}, {-inf, -inf}, {most, most}, {-most, -most}, {least, least},
		{1, next(1)}, {-next(1), -1}, {0, least}, {minusZero, least}, {-least, 0}, {-least, minusZero}, {least, 2 * least},
		{most, inf}, {-inf, -most}, {theNaN, theNaN}, {theNaN, otherNaN}, {theNaN, -inf}, {otherNaN, 1}, {theNaN, inf},
	} {
		mustBetween(t, "no room", ranked(l[0], l[1]), 2, 10, 0, api.ErrRank)
		mustBetween(t, "no room", roomy(ranked(l[0], l[1], inf)), 2, 10, 0, api.ErrRank)
	}
}

// P10.2: states that aren't Right: a task 0 is not what an `after` 0 means; of several tasks of one Id the first in the Order counts.
func TestBetweenOfJumbledState(t *testing.T) {
	for _, s := range []api.State{jumbled(), roomy(jumbled())} {
		for _, turned := range []bool{false, true} {
			if turned {
				slices.Reverse(s.Tasks)
			}
			mustBetween(t, "jumbled", s, 2, 8, -2.4239607376400672e-154, api.OK)
			mustBetween(t, "jumbled", s, 2, 3, 1.118751109680031e-154, api.OK)
			mustBetween(t, "jumbled", s, 2, 5, 2.25, api.OK)
			for _, after := range []uint64{0, 1, 2} {
				mustBetween(t, "jumbled", s, 2, after, 0, api.ErrRank)
			}
			mustBetween(t, "jumbled", s, 9, 5, 0, api.ErrRank)
			for list, after := range map[uint64]uint64{2: 6, 9: 8} {
				mustBetween(t, "jumbled", s, list, after, 0, api.ErrTask)
			}
		}
	}
	s := ranked(4, 8)
	s.Tasks[1].Id = 0
	mustBetween(t, "a task 0", s, 2, 0, -7.458340731200207e-155, api.OK)
}

// mustStandBehind puts a task with the Rank that Between told into the list, with Ids ahead of, amid and behind those that are there, and asks where it stands.
func mustStandBehind(t *testing.T, s api.State, list, after uint64, f float64) {
	t.Helper()
	was := rank.Order(s, list)
	at := 0
	if after != 0 {
		at = rank.At(s, after) + 1
	}
	for _, id := range []uint64{5, after + 5, greatest} {
		x := api.Task{Id: id, List: list, Title: "new", Rank: f}
		for _, i := range []int{0, len(s.Tasks) / 2, len(s.Tasks)} {
			more := api.State{Lists: s.Lists, Tasks: slices.Insert(slices.Clone(s.Tasks), i, x)}
			mustOrder(t, "one more", more, list, slices.Insert(slices.Clone(was), at, x))
			mustBeAt(t, "one more", more, id, at)
		}
	}
}

// P10.2, P10.5: at every place of lists of every length up to a dozen, with Ranks of all kinds, it is as flt.Mid tells it of the two neighbours.
func TestBetweenAtEveryPlace(t *testing.T) {
	r := random(2)
	from := append(ranks(), 3, 4, 5, 6, 7, 8, 9, -3, -4, -5, -6, -7)
	none, some := 0, 0
	for n := range 13 {
		for range 30 {
			var l []float64
			for range n {
				l = append(l, from[r(len(from))])
			}
			s := ranked(l...)
			s.Tasks = append(s.Tasks, api.Task{Id: 7, List: 5, Rank: 0.5})
			for place := range n + 1 {
				after, low, high := uint64(0), -inf, inf
				if place > 0 {
					x := ordered(s, 2)[place-1]
					after, low = x.Id, x.Rank
				}
				if place < n {
					high = ordered(s, 2)[place].Rank
				}
				want, is := flt.Mid(low, high)
				switch {
				case is != room(low, high) || n == 0 && want != 0:
					t.Fatal("flt.Mid of", low, high)
				case is:
					mustBetween(t, "every place", s, 2, after, want, api.OK)
					mustStandBehind(t, s, 2, after, want)
					some++
				default:
					mustBetween(t, "every place, no room", s, 2, after, 0, api.ErrRank)
					none++
				}
			}
		}
	}
	if none < 500 || some < 500 {
		t.Fatal("too few places with room or without:", some, none)
	}
}

// P10.5: task behind task at one place, until there is no number left.
func TestBetweenUntilThereIsNoRoom(t *testing.T) {
	for after, closest := range map[uint64]float64{0: -most, 10: next(1), 20: next(2)} {
		s := ranked(1, 2)
		for f, e := rank.Between(s, 2, after); e == api.OK; f, e = rank.Between(s, 2, after) {
			mustStandBehind(t, s, 2, after, f)
			s.Tasks = append(s.Tasks, api.Task{Id: uint64(100 + len(s.Tasks)), List: 2, Rank: f})
			if len(s.Tasks) > 70 {
				t.Fatal("after", after, "there is room for ever")
			}
		}
		mustBetween(t, "no room any more", s, 2, after, 0, api.ErrRank)
		if last := s.Tasks[len(s.Tasks)-1].Rank; last != closest || len(s.Tasks) < 50 {
			t.Fatal("after", after, "there was room for", len(s.Tasks), "tasks, the last one at", last)
		}
		s = rank.Spread(s, 2)
		f, e := rank.Between(s, 2, after)
		if e != api.OK {
			t.Fatal("after", after, "there is no room behind a Spread:", e)
		}
		mustStandBehind(t, s, 2, after, f)
	}
}
