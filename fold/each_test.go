package fold_test

import (
	"testing"

	"factotum/api"
	"factotum/fold"
)

// some are items on small, one of them with an error, and what they come to.
func some() ([]api.Item, []api.State, []api.Errno) {
	a := with(func(x *api.Task) { x.Title = "a" })
	b := with(func(x *api.Task) { x.Title, x.Tags = "a", []string{"b", "c", "d"} })
	c := with(func(x *api.Task) { x.Title, x.Est, x.Tags = "a", 4, []string{"b", "c", "d"} })
	l := []api.Item{edit(3, "a"), addTag(3, "c"), addTag(3, "c"), estimate(3, 4)}
	return l, []api.State{small(), a, b, b, c}, []api.Errno{api.OK, api.OK, api.ErrThere, api.OK}
}

// P14.1: Each tells what some come to, and so do the other calls.
func TestSome(t *testing.T) {
	l, states, errs := some()
	mustFold(t, "some", small(), l, states, errs)
}

// P14.1, P5: Each begins anew each time that it is gone through, also within itself.
func TestEachWithinItself(t *testing.T) {
	l, states, _ := some()
	each := fold.Each(small(), l...)
	n := 0
	for i, s := range each {
		k := 0
		for j, s := range each {
			mustBe(t, "within", s, states[j])
			spoil(s)
			if j != k {
				t.Fatal("within:", j, k)
			}
			k++
			if j == i {
				break
			}
		}
		mustBe(t, "around", s, states[i])
		spoil(s)
		if i != n || k != i+1 {
			t.Fatal("around:", i, n, k)
		}
		n++
	}
	if n != len(states) {
		t.Fatal("left behind", n)
	}
}

// P14.1: Each left where it begins does nothing more.
func TestEachLeft(t *testing.T) {
	l, states, _ := some()
	for left := range states {
		var told []int
		fold.Each(small(), l...)(func(n int, s api.State) bool {
			told = append(told, n)
			return n < left
		})
		if len(told) != left+1 || told[left] != left {
			t.Fatalf("left at %d: %v", left, told)
		}
	}
}

// P14.1: one that nobody goes through does no harm, and two of them are two.
func TestTwoOfEach(t *testing.T) {
	l, states, _ := some()
	a, b := fold.Each(small(), l...), fold.Each(api.State{}, l[0], addList(4, "l"))
	for n, s := range b {
		if n < 2 {
			mustBe(t, "b", s, api.State{})
		} else {
			mustBe(t, "b", s, api.State{Lists: []api.List{{Id: 4, Name: "l"}}})
		}
	}
	for n, s := range a {
		mustBe(t, "a", s, states[n])
	}
}

// P2: what was handed in, changed behind the call or while its states are gone through, changes nothing that Each tells.
func TestEachKeepsNothingHandedIn(t *testing.T) {
	for at := -1; at < 5; at++ {
		l, states, _ := some()
		s := roomy(small())
		each := fold.Each(s, l...)
		spoilAll := func() {
			spoil(s)
			spoilItems(l)
		}
		if at < 0 {
			spoilAll()
		}
		for range 2 {
			n := 0
			for i, got := range each {
				if i == at {
					spoilAll()
				}
				mustBe(t, "what was handed in is spoilt", got, states[i])
				n++
			}
			if n != len(states) {
				t.Fatalf("%d states, not %d", n, len(states))
			}
		}
	}
}
