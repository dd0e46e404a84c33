package task_test

import (
	"bytes"
	"slices"
	"strings"
	"testing"

	"factotum/api"
	"factotum/task"
)

// mustPut asks what Put writes, and that s stays as it was.
func mustPut(t *testing.T, s api.State, want string) {
	t.Helper()
	mustKeep(t, "Put", s, func() {
		if got := task.Put(s); string(got) != want {
			t.Fatalf("Put of %s: %s, not %s", told(s), told(string(got)), told(want))
		}
	})
}

// mustBeOf asks what b is, and that b stays as it was.
func mustBeOf(t *testing.T, b string, want api.State) {
	t.Helper()
	given := []byte(b)
	got, e := task.Of(given)
	if e != api.OK || !alike(got, want) {
		t.Fatalf("Of %s: %s, %d, not %s", told(b), told(got), e, told(want))
	}
	if string(given) != b {
		t.Fatalf("Of %s: what was given is changed", told(b))
	}
}

// mustBeNone asks that b is no state.
func mustBeNone(t *testing.T, what, b string) {
	t.Helper()
	s, e := task.Of([]byte(b))
	if len(s.Lists) != 0 || len(s.Tasks) != 0 || e != api.ErrState {
		t.Fatalf("%s: Of %s: %s, %d", what, told(b), told(s), e)
	}
}

// Floats' keys, by hand.
const (
	keyNaN   = "\x00\x00\x00\x00\x00\x00\x00\x00"
	keyBelow = "\x00\x0f\xff\xff\xff\xff\xff\xff"
	key0     = "\x80\x00\x00\x00\x00\x00\x00\x00"
	key1     = "\xbf\xf0\x00\x00\x00\x00\x00\x00"
	key2     = "\xc0\x00\x00\x00\x00\x00\x00\x00"
	keyMinus = "\x3f\xfb\xff\xff\xff\xff\xff\xff" // of -2.5
	keyAbove = "\xff\xf0\x00\x00\x00\x00\x00\x00"
)

// byHand are states and their bytes.
func byHand() map[string]api.State {
	l := []api.List{{Id: 2, Name: "l"}}
	long := strings.Repeat("~", mostTitle)
	return map[string]api.State{
		"\x00\x00":                                     {},
		"\x01\x02\x01l\x00":                            {Lists: l},
		"\x02\x02\x01l\x82\x01\x2c\x03m n\x00":         {Lists: []api.List{l[0], {Id: 300, Name: "m n"}}},
		"\x01\x88" + keyMinus + "\x3c" + long + "\x00": {Lists: []api.List{{Id: 0x3ffbffffffffffff, Name: long}}},
		"\x01\x02\x01l\x01\x03\x02\x01a\x00" + key1 + key2 + "\x02\x01x\x01y": {
			Lists: l, Tasks: []api.Task{{Id: 3, List: 2, Title: "a", Rank: 1, Est: 2, Tags: []string{"x", "y"}}}},
		"\x01\x02\x01l\x01\x01\x02\x04milk\x01" + key0 + keyNaN + "\x00": {
			Lists: l, Tasks: []api.Task{{Id: 1, List: 2, Title: "milk", Done: true, Est: theNaN}}},
		"\x01\x02\x01l\x02\x7f\x02\x01 \x00" + keyBelow + keyAbove + "\x00\x81\x80\x02\x02ab\x01" + keyMinus + key0 + "\x01\x03a-1": {
			Lists: l, Tasks: []api.Task{
				{Id: 127, List: 2, Title: " ", Rank: -inf, Est: inf},
				{Id: 128, List: 2, Title: "ab", Done: true, Rank: -2.5, Tags: []string{"a-1"}}}},
	}
}

// P9.3: small states written out by hand, there and back.
func TestBytesByHand(t *testing.T) {
	for b, s := range byHand() {
		mustPut(t, s, b)
		mustPut(t, roomy(s), b)
		mustBeOf(t, b, s)
		if written(s) != b {
			t.Fatalf("%q: the test's own writing is wrong: %q", b, written(s))
		}
	}
}

// P9.3: Put writes also what isn't Right; floats by their Key.
func TestPutOfWrongStates(t *testing.T) {
	mustPut(t, api.State{Lists: []api.List{{}, {}}}, "\x02\x00\x00\x00\x00\x00")
	mustPut(t, api.State{Tasks: []api.Task{{Rank: minusZero, Est: otherNaNs()[5], Tags: []string{"B", "", "B"}}}},
		"\x00\x01\x00\x00\x00\x00"+key0+keyNaN+"\x03\x01B\x00\x01B")
	long := strings.Repeat("\xff", 300)
	mustPut(t, api.State{Lists: []api.List{{Id: greatest, Name: long}}}, "\x01\x88\xff\xff\xff\xff\xff\xff\xff\xff\x82\x01\x2c"+long+"\x00")
	far := api.State{Lists: lists(0, 130), Tasks: tasks(9, 0, 400)}
	far.Tasks[7].Tags = slices.Repeat([]string{"a"}, 200)
	mustPut(t, far, written(far))
	mustBeNone(t, "a state that isn't Right", written(far))
	r := random(6)
	for range 300 {
		j := jumbled(r, randomRight(r))
		mustPut(t, j, written(j))
	}
}

// P9.3: no bytes, bytes cut off at every place, more behind and ahead.
func TestOfOtherLengths(t *testing.T) {
	mustBeNone(t, "no bytes", "")
	if s, e := task.Of(nil); len(s.Lists) != 0 || len(s.Tasks) != 0 || e != api.ErrState {
		t.Fatalf("Of nil: %v, %d", s, e)
	}
	all := []string{written(sample())}
	for b := range byHand() {
		all = append(all, b)
	}
	for _, b := range all {
		for n := range len(b) {
			mustBeNone(t, "cut off", b[:n])
		}
		for _, more := range []string{"\x00", "\x01", "\xff", b} {
			mustBeNone(t, "more behind", b+more)
		}
		mustBeNone(t, "more ahead", "\x3d"+b)
	}
}

// parts are those of a state with a list and a task, which are numbers, and which is the flag.
func parts() (l []string, numbers []int, done int) {
	l = []string{
		"\x01", "\x02", "\x01", "l", // the list: how many, Id, the Name's length, the Name
		"\x01", "\x03", "\x02", "\x01", "a", // the task: how many, Id, List, the Title's length, the Title
		"\x00", key1, key2, // Done, Rank, Est
		"\x02", "\x01", "x", "\x02", "yz", // Tags: how many, and of each its length
	}
	return l, []int{0, 1, 2, 4, 5, 6, 7, 12, 13, 15}, 9
}

// with is what the parts come to with another one at this place.
func with(at int, part string) string {
	l, _, _ := parts()
	l[at] = part
	return strings.Join(l, "")
}

// P9.3: numbers that aren't in their shortest form, each of them in turn.
func TestOfOtherForms(t *testing.T) {
	l, numbers, _ := parts()
	mustBeOf(t, strings.Join(l, ""), api.State{
		Lists: []api.List{{Id: 2, Name: "l"}},
		Tasks: []api.Task{{Id: 3, List: 2, Title: "a", Rank: 1, Est: 2, Tags: []string{"x", "yz"}}},
	})
	for _, at := range numbers {
		for k := 1; k <= 12; k++ {
			mustBeNone(t, "a longer form", with(at, string([]byte{byte(128 + k)})+strings.Repeat("\x00", k-1)+l[at]))
		}
		mustBeNone(t, "no bytes behind", with(at, "\x80"))
	}
	// Of 0, too: of no lists, of no tasks, of no Tags.
	mustBeNone(t, "a longer 0", "\x81\x00\x00")
	mustBeNone(t, "a longer 0", "\x00\x81\x00")
	mustBeNone(t, "a longer 0", "\x01\x02\x01l\x01\x03\x02\x01a\x00"+key1+key2+"\x81\x00")
	mustBeNone(t, "an Id with noughts ahead", with(1, "\x82\x00\x80"))
	mustBeNone(t, "an Id of nine bytes", with(1, "\x89\x01\x00\x00\x00\x00\x00\x00\x00\x00"))
}

// P9.3: a flag that is neither; keys that no float has.
func TestOfWrongParts(t *testing.T) {
	_, _, done := parts()
	for c := 2; c < 256; c++ {
		mustBeNone(t, "a flag that is neither", with(done, string([]byte{byte(c)})))
	}
	for _, k := range []string{
		"\x7f\xff\xff\xff\xff\xff\xff\xff", // what would be the key of -0
		"\x00\x00\x00\x00\x00\x00\x00\x01", "\x00\x0f\xff\xff\xff\xff\xff\xfe",
		"\xff\xf0\x00\x00\x00\x00\x00\x01", "\xff\xff\xff\xff\xff\xff\xff\xff", "\xff\xf8\x00\x00\x00\x00\x00\x01",
	} {
		mustBeNone(t, "a Rank's key that no float has", with(done+1, k))
		mustBeNone(t, "an Est's key that no float has", with(done+2, k))
	}
	mustBeNone(t, "a NaN as Rank", with(done+1, keyNaN))
	for _, f := range append(numbers(), theNaN) {
		s, e := task.Of([]byte(with(done+2, key(f))))
		if e != api.OK || !alikeTask(s.Tasks[0], api.Task{Id: 3, List: 2, Title: "a", Rank: 1, Est: f, Tags: []string{"x", "yz"}}) {
			t.Fatalf("Est %v: %v, %d", f, s, e)
		}
	}
}

// P9.3: counts at the bounds and above, with the things and without them.
func TestOfCounts(t *testing.T) {
	for n := range 131 {
		s := api.State{Lists: lists(1, n)}
		mustBeWritten(t, s, n <= mostLists)
		s = api.State{Lists: lists(1, 1), Tasks: tasks(1, 1, n)}
		mustBeWritten(t, s, n <= mostTasks)
		var tags []string
		for i := range n {
			tags = append(tags, "a"+string(rune('a'+i/26))+string(rune('a'+i%26)))
		}
		mustBeWritten(t, tagged(tags...), n <= mostTags)
	}
	for _, n := range []uint64{61, 127, 128, 255, 256, 1 << 31, 1 << 32, 1<<63 - 1, 1 << 63, greatest} {
		mustBeNone(t, "a count of lists", number(n))
		mustBeNone(t, "a count of lists", number(n)+strings.Repeat("\x00\x00", 200))
		mustBeNone(t, "a count of tasks", "\x00"+number(n))
		mustBeNone(t, "a count of tasks", "\x01\x02\x01l"+number(n)+strings.Repeat("\x00", 5000))
		mustBeNone(t, "a count of Tags", with(12, number(n)))
	}
	for n := 1; n <= 60; n++ {
		mustBeNone(t, "a count without things", count(n))
		mustBeNone(t, "a count without things", "\x00"+count(n))
		mustBeNone(t, "a count with noughts", count(n)+strings.Repeat("\x00", 61*25))
		mustBeNone(t, "a count with noughts", "\x00"+count(n)+strings.Repeat("\x00", 61*25))
	}
}

// mustBeWritten asks that s is written, and, if it is Right, read as itself, else not at all.
func mustBeWritten(t *testing.T, s api.State, right bool) {
	t.Helper()
	mustPut(t, s, written(s))
	if right {
		mustBeOf(t, written(s), s)
	} else {
		mustBeNone(t, "not Right", written(s))
	}
}

// P9.3: texts at the bounds and above.
func TestOfTexts(t *testing.T) {
	for _, n := range []int{0, 1, 2, 15, 16, 17, 59, 60, 61, 62, 127, 128, 255, 256, 316, 60000} {
		long := strings.Repeat("x", n)
		mustBeWritten(t, api.State{Lists: []api.List{{Id: 1, Name: long}}}, n >= 1 && n <= mostTitle)
		x := plain()
		x.Title = long
		mustBeWritten(t, one(x), n >= 1 && n <= mostTitle)
		mustBeWritten(t, tagged(long), n >= 1 && n <= mostTag)
	}
	for _, n := range []uint64{61, 1 << 16, 1 << 31, 1 << 32, 1 << 63, greatest} {
		mustBeNone(t, "a Name's length", with(2, number(n)))
		mustBeNone(t, "a Title's length", with(7, number(n)))
		mustBeNone(t, "a Tag's length", with(13, number(n)))
	}
}

// P9.3: of what isn't Right, whatever is wrong, there is ErrState alone.
func TestOfStatesThatAreNotRight(t *testing.T) {
	all := faults()
	for i := range all {
		for j := i; j < len(all); j++ {
			s := sample()
			s.Tasks = s.Tasks[:3]
			all[i].make(&s)
			if j != i {
				all[j].make(&s)
			}
			// What is written has no nought with a sign, and no NaN but one.
			b := written(s)
			mustPut(t, s, b)
			if task.Right(canonFloats(s)) == api.OK {
				mustBeOf(t, b, canonFloats(s))
			} else {
				mustBeNone(t, "not Right", b)
			}
		}
	}
	for _, x := range idRows {
		var s api.State
		for _, id := range x.ids {
			s.Lists = append(s.Lists, api.List{Id: id, Name: "l"})
		}
		mustBeWritten(t, s, x.rising)
	}
	for _, tags := range [][]string{{"a", "a"}, {"b", "a"}, {"A"}, {"a b"}, {""}} {
		mustBeWritten(t, tagged(tags...), false)
	}
	mustBeWritten(t, api.State{Tasks: tasks(1, 1, 1)}, false)
}

func canonFloats(s api.State) api.State {
	c := copied(s)
	for i, t := range c.Tasks {
		c.Tasks[i].Rank, c.Tasks[i].Est = canon(t.Rank), canon(t.Est)
	}
	return c
}

// P9.3: of all short bytes those are states that Put makes of what Of tells.
func TestOfAllShortBytes(t *testing.T) {
	bytesOf := []byte{0, 1, 2, 3, 32, 126, 127, 128, 129, 255}
	found := 0
	var look func(b []byte)
	look = func(b []byte) {
		s, e := task.Of(b)
		switch e {
		case api.OK:
			found++
			if written(s) != string(b) || task.Right(s) != api.OK {
				t.Fatalf("Of %s: %s", told(string(b)), told(s))
			}
		default:
			mustBeNone(t, "short bytes", string(b))
		}
		if len(b) < 6 {
			for _, x := range bytesOf {
				look(append(b[:len(b):len(b)], x))
			}
		}
	}
	look(nil)
	// By hand: nothing; of one list 6 Ids of one byte with 2 Names of one byte, or 4 of two; 3 Ids of two bytes with 2 Names of one.
	if want := 1 + 6*(2+4) + 3*2; found != want {
		t.Errorf("%d states, not %d", found, want)
	}
}

// P9.4: there and back, of many Right states; unlike ones have unlike bytes.
func TestThereAndBack(t *testing.T) {
	r := random(7)
	there := map[string]api.State{}
	for range 3000 {
		s := randomRight(r)
		b := string(task.Put(s))
		mustPut(t, s, written(s))
		mustBeOf(t, b, s)
		if got, _ := task.Of([]byte(b)); !task.Same(got, s) {
			t.Fatalf("Of Put of %s: %s", told(s), told(got))
		}
		if other, is := there[b]; is && !alike(other, s) {
			t.Fatalf("%s and %s have the same bytes", told(other), told(s))
		}
		there[b] = s
	}
	if len(there) < 2000 {
		t.Fatalf("%d states alone", len(there))
	}
}

// P9.4: states that are unlike in one thing alone have unlike bytes.
func TestUnlikeStatesHaveUnlikeBytes(t *testing.T) {
	there := map[string]string{string(task.Put(sample())): "none"}
	right := 0
	for what, change := range changes() {
		s := sample()
		change(&s)
		b := string(task.Put(s))
		if other, is := there[b]; is {
			t.Fatalf("%s and %s: the same bytes", what, other)
		}
		there[b] = what
		if task.Right(s) == api.OK {
			right++
			mustBeOf(t, b, s)
		}
	}
	if right < 8 {
		t.Fatalf("%d of them alone are Right", right)
	}
}

// P9.3, P9.4: bytes of a state with one of them changed, left out or doubled are none, or those of another state.
func TestOfChangedBytes(t *testing.T) {
	was := string(task.Put(sample()))
	look := func(b string) {
		t.Helper()
		s, e := task.Of([]byte(b))
		if e != api.OK {
			mustBeNone(t, "changed bytes", b)
			return
		}
		if task.Right(s) != api.OK || string(task.Put(s)) != b || b != was && alike(s, sample()) {
			t.Fatalf("Of %s: %s", told(string(b)), told(s))
		}
	}
	for at := range len(was) {
		for c := range 256 {
			look(replaced(was, at, byte(c)))
		}
		look(was[:at] + was[at+1:])
		look(was[:at] + was[at:at+1] + was[at:])
	}
}

// P2: what Put and Of tell is new memory, and what lies behind the bytes is neither read nor changed.
func TestBytesAreNotShared(t *testing.T) {
	s := sample()
	b, again := task.Put(s), task.Put(s)
	want := written(s)
	spoil(s)
	clear(again[:cap(again)])
	if string(b) != want {
		t.Fatalf("Put: %q, not %q", b, want)
	}
	room := []byte(want + "behind")
	n := len(want)
	x, e := task.Of(room[:n])
	y, f := task.Of(room[:n])
	if e != api.OK || f != api.OK || !bytes.Equal(room, []byte(want+"behind")) {
		t.Fatalf("Of: %d, %d, %q", e, f, room)
	}
	clear(room)
	for i := range x.Tasks {
		_ = append(x.Tasks[i].Tags, "more")
	}
	if !alike(x, sample()) {
		t.Fatalf("Of: %v", x)
	}
	spoil(x)
	if !alike(y, sample()) {
		t.Fatalf("Of: %v", y)
	}
}
