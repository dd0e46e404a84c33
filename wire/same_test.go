package wire_test

import (
	"math"
	"slices"
	"testing"

	"factotum/api"
	"factotum/wire"
)

// copied is m in memory of its own.
func copied(m api.Msg) api.Msg {
	m.Items, m.Lasts = slices.Clone(m.Items), slices.Clone(m.Lasts)
	m.State.Lists, m.State.Tasks = slices.Clone(m.State.Lists), slices.Clone(m.State.Tasks)
	for i, x := range m.State.Tasks {
		m.State.Tasks[i].Tags = slices.Clone(x.Tags)
	}
	return m
}

// others differ from m in one thing each.
func others(m api.Msg) []api.Msg {
	var l []api.Msg
	change := func(do func(m *api.Msg)) {
		o := copied(m)
		do(&o)
		l = append(l, o)
	}
	for _, n := range []uint64{1, 1 << 8, 1 << 32, 1 << 63, greatest} {
		change(func(m *api.Msg) { m.Line += n })
		change(func(m *api.Msg) { m.Boot += n })
		change(func(m *api.Msg) { m.From += n })
		change(func(m *api.Msg) { m.To += n })
	}
	for _, n := range []int{1, -1, 2, 4, 8, 1 << 8, 1 << 32, math.MinInt} {
		change(func(m *api.Msg) { m.Kind += n })
	}
	change(func(m *api.Msg) { m.Items = append(m.Items, plain(1)...) })
	change(func(m *api.Msg) { m.Items = append(make([]api.Item, 1), m.Items...) })
	change(func(m *api.Msg) { m.Lasts = append(m.Lasts, api.Last{Ident: greatest, Id: 1}) })
	change(func(m *api.Msg) { m.Lasts = append(make([]api.Last, 1), m.Lasts...) })
	change(func(m *api.Msg) { m.State.Lists = append(m.State.Lists, api.List{Id: greatest, Name: "l"}) })
	change(func(m *api.Msg) { m.State.Tasks = append(m.State.Tasks, api.Task{}) })
	for i, x := range m.Items {
		change(func(m *api.Msg) { m.Items = slices.Delete(m.Items, i, i+1) })
		for _, y := range otherItems(x) {
			change(func(m *api.Msg) { m.Items[i] = y })
		}
	}
	for i := range m.Lasts {
		change(func(m *api.Msg) { m.Lasts = slices.Delete(m.Lasts, i, i+1) })
		for _, n := range []uint64{1, 1 << 32, 1 << 63, greatest} {
			change(func(m *api.Msg) { m.Lasts[i].Ident += n })
			change(func(m *api.Msg) { m.Lasts[i].Id += n })
		}
	}
	for i := range m.State.Lists {
		change(func(m *api.Msg) { m.State.Lists = slices.Delete(m.State.Lists, i, i+1) })
		change(func(m *api.Msg) { m.State.Lists[i].Id++ })
		change(func(m *api.Msg) { m.State.Lists[i].Name += "s" })
	}
	for i, x := range m.State.Tasks {
		for _, do := range otherTasks(x) {
			change(func(m *api.Msg) { do(&m.State.Tasks[i]) })
		}
		change(func(m *api.Msg) { m.State.Tasks = slices.Delete(m.State.Tasks, i, i+1) })
	}
	return l
}

// otherTasks change one thing of a task.
func otherTasks(x api.Task) []func(x *api.Task) {
	l := []func(x *api.Task){
		func(x *api.Task) { x.Id-- }, func(x *api.Task) { x.List ^= 302 }, func(x *api.Task) { x.Title += "s" }, func(x *api.Task) { x.Done = !x.Done },
		func(x *api.Task) { x.Rank = 7.5 }, func(x *api.Task) { x.Est = 7.5 }, func(x *api.Task) { x.Tags = append(x.Tags, "z") }, func(x *api.Task) { x.Tags = append([]string{"-"}, x.Tags...) },
	}
	for i := range x.Tags {
		l = append(l, func(x *api.Task) { x.Tags[i] += "z" }, func(x *api.Task) { x.Tags = slices.Delete(x.Tags, i, i+1) })
	}
	return l
}

func mustBeSame(t *testing.T, a, b api.Msg, want bool) {
	t.Helper()
	if wire.Same(a, b) != want || wire.Same(b, a) != want {
		t.Fatalf("Same of\n%s and\n%s isn't %t", told(a), told(b), want)
	}
}

// crowded has all that there is, whatever may be.
func crowded() api.Msg {
	return api.Msg{Kind: 3, Line: 1, Boot: 2, From: 3, To: 4, Items: plain(3), Lasts: lasts(3), State: small()}
}

// P15.2: Same of messages alike, and of ones that differ in one thing, whether they may be or not.
func TestSame(t *testing.T) {
	for _, m := range append(samples(), crowded(), api.Msg{}, api.Msg{Items: wrongItems(), State: wrongStates()[0]}) {
		mustBeSame(t, m, m, true)
		mustBeSame(t, m, copied(m), true)
		mustBeSame(t, m, emptied(m), true)
		mustBeSame(t, m, roomy(m), true)
		for _, o := range others(m) {
			mustBeSame(t, m, o, false)
		}
	}
	l := samples()
	for i, a := range l {
		for j, b := range l {
			mustBeSame(t, a, b, i == j || told(a) == told(b))
		}
	}
}

// P15.2: the order counts; numbers that changed their places don't make it the same.
func TestSameInAnotherOrder(t *testing.T) {
	m := crowded()
	for _, change := range []func(m *api.Msg){
		func(m *api.Msg) { slices.Reverse(m.Items) },
		func(m *api.Msg) { slices.Reverse(m.Lasts) },
		func(m *api.Msg) { slices.Reverse(m.State.Lists) },
		func(m *api.Msg) { slices.Reverse(m.State.Tasks) },
		func(m *api.Msg) { slices.Reverse(m.State.Tasks[0].Tags) },
		func(m *api.Msg) { m.Line, m.Boot = m.Boot, m.Line },
		func(m *api.Msg) { m.From, m.To = m.To, m.From },
		func(m *api.Msg) { m.Boot, m.From = m.From, m.Boot },
		func(m *api.Msg) { m.Items[0].Ident, m.Items[0].Id = m.Items[0].Id, m.Items[0].Ident },
		func(m *api.Msg) { m.Lasts[1].Ident, m.Lasts[1].Id = m.Lasts[1].Id, m.Lasts[1].Ident },
	} {
		o := copied(m)
		change(&o)
		mustBeSame(t, m, o, false)
		change(&o)
		mustBeSame(t, m, o, true)
	}
}

// P15.2: noughts are one, and NaNs, in items and in the state.
func TestSameOfFloats(t *testing.T) {
	for _, pair := range [][2]float64{{0, minusZero}, {theNaN, otherNaN}, {otherNaN, math.NaN()}} {
		for _, put := range []func(m *api.Msg, f float64){
			func(m *api.Msg, f float64) { m.Items[1].Mut.F = f },
			func(m *api.Msg, f float64) { m.State.Tasks[1].Rank = f },
			func(m *api.Msg, f float64) { m.State.Tasks[2].Est = f },
		} {
			a, b, c := copied(crowded()), copied(crowded()), copied(crowded())
			put(&a, pair[0])
			put(&b, pair[1])
			put(&c, 9.5)
			mustBeSame(t, a, b, true)
			mustBeSame(t, a, c, false)
		}
	}
}
