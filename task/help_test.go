package task_test

import (
	"cmp"
	"fmt"
	"math"
	"slices"
	"strconv"
	"strings"
	"testing"

	"factotum/api"
	"factotum/task"
)

const (
	mostLists = 20
	mostTasks = 60
	mostTitle = 60
	mostTags  = 4
	mostTag   = 16
	greatest  = math.MaxUint64
)

var (
	inf       = math.Inf(1)
	minusZero = math.Copysign(0, -1)
	theNaN    = math.Float64frombits(0x7ff8000000000001)
)

// otherNaNs are NaNs that don't stand for all.
func otherNaNs() []float64 {
	var l []float64
	for _, b := range []uint64{
		0x7ff8000000000000, 0x7ff8000000000002, 0x7ff0000000000001, 0x7fffffffffffffff, 0x7ff4000000000000,
		0xfff8000000000001, 0xfff8000000000000, 0xfff0000000000001, 0xffffffffffffffff,
	} {
		l = append(l, math.Float64frombits(b))
	}
	return l
}

// numbers are floats that are Canon and no NaNs.
func numbers() []float64 {
	return []float64{
		0, 1, -1, 2.5, -2.5, 0.1, math.SmallestNonzeroFloat64, -math.SmallestNonzeroFloat64,
		math.MaxFloat64, -math.MaxFloat64, inf, -inf,
	}
}

// canon is flt.Canon by the words of its chapter.
func canon(f float64) float64 {
	switch {
	case f != f:
		return theNaN
	case f == 0:
		return 0
	}
	return f
}

// key is a float's Key in 8 bytes, as a codec writes it, by the words of their chapters.
func key(f float64) string {
	b := math.Float64bits(canon(f))
	switch {
	case f != f:
		b = 0
	case b < 1<<63:
		b += 1 << 63
	default:
		b = math.MaxUint64 - b
	}
	return whole(b)
}

// whole is n in 8 bytes, the highest first.
func whole(n uint64) string {
	b := make([]byte, 8)
	for i := range b {
		b[i] = byte(n >> (56 - 8*i))
	}
	return string(b)
}

// number is n as a codec writes it.
func number(n uint64) string {
	if n < 128 {
		return string([]byte{byte(n)})
	}
	s := strings.TrimLeft(whole(n), "\x00")
	return string([]byte{byte(128 + len(s))}) + s
}

func count(n int) string { return number(uint64(n)) }

func text(s string) string { return count(len(s)) + s }

func flag(is bool) string {
	if is {
		return "\x01"
	}
	return "\x00"
}

// written is what Put writes, as the chapter tells it, with no thought of the codec.
func written(s api.State) string {
	b := count(len(s.Lists))
	for _, l := range s.Lists {
		b += number(l.Id) + text(l.Name)
	}
	b += count(len(s.Tasks))
	for _, t := range s.Tasks {
		b += number(t.Id) + number(t.List) + text(t.Title) + flag(t.Done) + key(t.Rank) + key(t.Est) + count(len(t.Tags))
		for _, tag := range t.Tags {
			b += text(tag)
		}
	}
	return b
}

// told is what stands in a message of a test: no more than a reader wants.
func told(x any) string {
	s := fmt.Sprintf("%v", x)
	if b, is := x.(string); is {
		s = strconv.Quote(b)
	}
	if len(s) > 500 {
		return s[:500] + ".."
	}
	return s
}

func alikeTask(a, b api.Task) bool {
	return a.Id == b.Id && a.List == b.List && a.Title == b.Title && a.Done == b.Done &&
		math.Float64bits(a.Rank) == math.Float64bits(b.Rank) && math.Float64bits(a.Est) == math.Float64bits(b.Est) &&
		slices.Equal(a.Tags, b.Tags)
}

// alike asks for the same bits: it tells noughts and NaNs apart, which task.Same doesn't.
func alike(a, b api.State) bool {
	return slices.Equal(a.Lists, b.Lists) && slices.EqualFunc(a.Tasks, b.Tasks, alikeTask)
}

// copied is s in memory of its own, with what lies behind the lengths of its lists.
func copied(s api.State) api.State {
	c := api.State{Lists: wholeCopy(s.Lists), Tasks: wholeCopy(s.Tasks)}
	behind := c.Tasks[:cap(c.Tasks)]
	for i := range behind {
		behind[i].Tags = wholeCopy(behind[i].Tags)
	}
	return c
}

func wholeCopy[T any](l []T) []T { return slices.Clone(l[:cap(l)])[:len(l):cap(l)] }

// wide is s with its lists as long as there is room for.
func wide(s api.State) api.State {
	w := copied(s)
	w.Lists, w.Tasks = w.Lists[:cap(w.Lists)], w.Tasks[:cap(w.Tasks)]
	for i, t := range w.Tasks {
		w.Tasks[i].Tags = t.Tags[:cap(t.Tags)]
	}
	return w
}

// roomy is s with something behind each of its lists.
func roomy(s api.State) api.State {
	r := api.State{Lists: behind(s.Lists, api.List{Id: 77, Name: "behind"}), Tasks: behind(s.Tasks, api.Task{Id: 78, Title: "behind"})}
	for i, t := range r.Tasks {
		r.Tasks[i].Tags = behind(t.Tags, "behind")
	}
	return r
}

// behind is a copy of l with x behind it, and no room behind that.
func behind[T any](l []T, x T) []T {
	n := len(l)
	return append(append(make([]T, 0, n+1), l...), x)[: n : n+1]
}

// spoil changes all that a caller may change of s, as far as there is room.
func spoil(s api.State) {
	for i := range s.Lists[:cap(s.Lists)] {
		s.Lists[:cap(s.Lists)][i] = api.List{Id: 99, Name: "spoilt"}
	}
	for i := range s.Tasks[:cap(s.Tasks)] {
		t := &s.Tasks[:cap(s.Tasks)][i]
		spoilTags(*t)
		*t = api.Task{Id: 99, List: 99, Title: "spoilt", Done: true, Rank: 99, Est: 99, Tags: []string{"spoilt"}}
	}
}

func spoilTags(t api.Task) {
	for i := range t.Tags[:cap(t.Tags)] {
		t.Tags[:cap(t.Tags)][i] = "spoilt"
	}
}

// mustKeep asks that a call leaves the state as it is, also behind its lists' lengths.
func mustKeep(t *testing.T, what string, s api.State, call func()) {
	t.Helper()
	was := wide(s)
	call()
	if !alike(wide(s), was) {
		t.Fatalf("%s: the state that was handed in is %s, not %s", what, told(wide(s)), told(was))
	}
}

// mustBeRight asks what Right tells of s, and that s stays as it was.
func mustBeRight(t *testing.T, what string, s api.State, want api.Errno) {
	t.Helper()
	mustKeep(t, what, s, func() {
		if got := task.Right(s); got != want {
			t.Fatalf("%s: Right: %d, not %d", what, got, want)
		}
	})
}

// lists are n lists, the Ids from this one on.
func lists(from uint64, n int) []api.List {
	var l []api.List
	for i := range uint64(n) {
		l = append(l, api.List{Id: from + i, Name: "l" + strconv.Itoa(int(i))})
	}
	return l
}

// tasks are n tasks of a list, the Ids from this one on.
func tasks(list, from uint64, n int) []api.Task {
	var l []api.Task
	for i := range uint64(n) {
		l = append(l, api.Task{Id: from + i, List: list, Title: "t" + strconv.Itoa(int(i))})
	}
	return l
}

// sample is a Right state with something in each field.
func sample() api.State {
	return api.State{
		Lists: []api.List{{Id: 2, Name: "food"}, {Id: 7, Name: "at work"}, {Id: 9, Name: "~"}},
		Tasks: []api.Task{
			{Id: 3, List: 7, Title: "write", Rank: 1, Est: theNaN, Tags: []string{"-", "2", "b", "b1"}},
			{Id: 4, List: 2, Title: "eat", Done: true, Rank: -inf, Est: 2},
			{Id: 300, List: 9, Title: "sleep", Rank: 0.5, Est: 0, Tags: []string{"night"}},
			{Id: greatest, List: 2, Title: "eat", Rank: 1, Est: inf, Tags: []string{"b", "c"}},
		},
	}
}

// one is a state of one list and one task of it.
func one(t api.Task) api.State {
	return api.State{Lists: []api.List{{Id: 2, Name: "l"}}, Tasks: []api.Task{t}}
}

// plain is a right task of it.
func plain() api.Task { return api.Task{Id: 3, List: 2, Title: "a"} }

// random tells numbers below n, the same ones each time.
func random(seed uint64) func(n int) int {
	return func(n int) int {
		seed = seed*6364136223846793005 + 1442695040888963407
		return int(seed>>33) % n
	}
}

// randomId has few bytes or many.
func randomId(r func(n int) int) uint64 {
	return uint64(r(1<<31)*r(1<<31)) >> r(62)
}

// randomText is one of 1 to `long` of these bytes.
func randomText(r func(n int) int, bytes string, long int) string {
	b := make([]byte, 1+r(1+r(long)))
	for i := range b {
		b[i] = bytes[r(len(bytes))]
	}
	return string(b)
}

const tagBytes = "-0123456789abcdefghijklmnopqrstuvwxyz"

func titleBytes() string {
	b := ""
	for c := byte(32); c <= 126; c++ {
		b += string(c)
	}
	return b
}

// randomTask is one that Right has nothing against, in a state where its Id and List may be.
func randomTask(r func(n int) int, id, list uint64) api.Task {
	floats := append(numbers(), float64(r(1000))/8, -1-float64(r(1000)))
	t := api.Task{Id: id, List: list, Title: randomText(r, titleBytes(), mostTitle), Done: r(2) == 1, Rank: floats[r(len(floats))]}
	floats = append(floats, theNaN)
	t.Est = floats[r(len(floats))]
	for range r(mostTags + 1) {
		t.Tags = append(t.Tags, randomText(r, tagBytes, mostTag))
	}
	slices.Sort(t.Tags)
	t.Tags = slices.Compact(t.Tags)
	return t
}

// randomIds are some, rising, none of them 0.
func randomIds(r func(n int) int, most int) []uint64 {
	var l []uint64
	for range r(most + 1) {
		l = append(l, 1+randomId(r))
	}
	slices.Sort(l)
	return slices.Compact(l)
}

// randomRight is a state that is Right, by the words of the chapter.
func randomRight(r func(n int) int) api.State {
	var s api.State
	for _, id := range randomIds(r, 1+r(mostLists)) {
		s.Lists = append(s.Lists, api.List{Id: id, Name: randomText(r, titleBytes(), mostTitle)})
	}
	if len(s.Lists) == 0 {
		return s
	}
	for _, id := range randomIds(r, 1+r(mostTasks)) {
		s.Tasks = append(s.Tasks, randomTask(r, id, s.Lists[r(len(s.Lists))].Id))
	}
	return s
}

// canonical is Canon by the words of the chapter: Id by Id, the first that has it.
func canonical(s api.State) api.State {
	var c api.State
	for _, id := range ids(s.Lists, func(l api.List) uint64 { return l.Id }) {
		c.Lists = append(c.Lists, s.Lists[slices.IndexFunc(s.Lists, func(l api.List) bool { return l.Id == id })])
	}
	for _, id := range ids(s.Tasks, func(t api.Task) uint64 { return t.Id }) {
		t := s.Tasks[slices.IndexFunc(s.Tasks, func(t api.Task) bool { return t.Id == id })]
		t.Rank, t.Est = canon(t.Rank), canon(t.Est)
		t.Tags = ids(t.Tags, func(tag string) string { return tag })
		c.Tasks = append(c.Tasks, t)
	}
	return c
}

// ids are the keys that l has, rising, each once.
func ids[T any, K cmp.Ordered](l []T, key func(T) K) []K {
	there := map[K]bool{}
	for _, x := range l {
		there[key(x)] = true
	}
	var keys []K
	for k := range there {
		keys = append(keys, k)
	}
	slices.Sort(keys)
	return keys
}
