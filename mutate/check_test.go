package mutate_test

import (
	"math"
	"strings"
	"testing"

	"factotum/api"
	"factotum/mutate"
)

// mustCheck asks what Check tells.
func mustCheck(t *testing.T, what string, m api.Mut, want api.Errno) {
	t.Helper()
	if got := mutate.Check(m); got != want {
		t.Fatalf("%s: Check of %s: %d, not %d", what, toldMut(m), got, want)
	}
}

// row is what the document's table tells of a Kind: which fields it names, as what.
type row struct {
	kind              int
	id, list, text, f string
	flag              bool
	right             api.Mut
}

// rows are the document's table, with a mutation of each Kind that is right.
func rows() []row {
	return []row{
		{kind: api.MutList, id: "list", text: "title", right: api.Mut{Kind: 1, Id: 3, Text: "Food!"}},
		{kind: api.MutDrop, id: "list", right: api.Mut{Kind: 2, Id: 3}},
		{kind: api.MutMake, id: "task", list: "list", text: "title", f: "rank", right: api.Mut{Kind: 3, Id: 3, List: 2, Text: "Buy milk", F: 2.5}},
		{kind: api.MutEdit, id: "task", text: "title", right: api.Mut{Kind: 4, Id: 3, Text: "Buy ~2 milks"}},
		{kind: api.MutDone, id: "task", flag: true, right: api.Mut{Kind: 5, Id: 3, Flag: true}},
		{kind: api.MutMove, id: "task", list: "list", f: "rank", right: api.Mut{Kind: 6, Id: 3, List: 2, F: -1}},
		{kind: api.MutRank, id: "task", f: "rank", right: api.Mut{Kind: 7, Id: 3, F: 4}},
		{kind: api.MutEst, id: "task", f: "est", right: api.Mut{Kind: 8, Id: 3, F: 5}},
		{kind: api.MutTag, id: "task", text: "tag", right: api.Mut{Kind: 9, Id: 3, Text: "shop-1"}},
		{kind: api.MutUntag, id: "task", text: "tag", right: api.Mut{Kind: 10, Id: 3, Text: "9"}},
		{kind: api.MutDelete, id: "task", right: api.Mut{Kind: 11, Id: 3}},
		{kind: api.MutClear, list: "list", right: api.Mut{Kind: 12, List: 2}},
		{kind: api.MutSpread, list: "list", right: api.Mut{Kind: 13, List: 2}},
	}
}

// try is what a field is made, and the error of that: OK, if there is nothing wrong with it.
type try struct {
	set func(m *api.Mut)
	err api.Errno
}

func leave() try { return try{func(*api.Mut) {}, api.OK} }

func idTries(x row) []try {
	set := func(id uint64, e api.Errno) try { return try{func(m *api.Mut) { m.Id = id }, e} }
	switch x.id {
	case "list":
		return []try{leave(), set(1, api.OK), set(greatest, api.OK), set(0, api.ErrList)}
	case "task":
		return []try{leave(), set(1, api.OK), set(greatest, api.OK), set(0, api.ErrTask)}
	}
	return []try{leave(), set(1, api.ErrMut), set(1<<32, api.ErrMut), set(greatest, api.ErrMut)}
}

func listTries(x row) []try {
	set := func(id uint64, e api.Errno) try { return try{func(m *api.Mut) { m.List = id }, e} }
	if x.list == "list" {
		return []try{leave(), set(1, api.OK), set(greatest, api.OK), set(0, api.ErrList)}
	}
	return []try{leave(), set(1, api.ErrMut), set(1<<32, api.ErrMut), set(greatest, api.ErrMut)}
}

func textTries(x row) []try {
	set := func(text string, e api.Errno) try { return try{func(m *api.Mut) { m.Text = text }, e} }
	long := strings.Repeat("x", mostTitle)
	switch x.text {
	case "title":
		return []try{
			leave(), set("~", api.OK), set(" ", api.OK), set("A B", api.OK), set(long, api.OK),
			set("", api.ErrText), set(long+"x", api.ErrText), set("\x1f", api.ErrText), set("a\x7f", api.ErrText), set("é", api.ErrText),
		}
	case "tag":
		return []try{
			leave(), set("-", api.OK), set("a", api.OK), set("z09", api.OK), set(long[:mostTag], api.OK),
			set("", api.ErrText), set(long[:mostTag+1], api.ErrText), set(long, api.ErrText), set("A", api.ErrText), set("a b", api.ErrText), set("a_", api.ErrText),
		}
	}
	return []try{leave(), set("a", api.ErrMut), set(" ", api.ErrMut), set("\x00", api.ErrMut), set(long+"x", api.ErrMut)}
}

func floatTries(x row) []try {
	set := func(f float64, e api.Errno) try { return try{func(m *api.Mut) { m.F = f }, e} }
	l := []try{leave(), set(0, api.OK)}
	for _, f := range numbers()[1:] {
		if x.f == "" {
			l = append(l, set(f, api.ErrMut))
		} else {
			l = append(l, set(f, api.OK))
		}
	}
	switch x.f {
	case "rank":
		l = append(l, set(theNaN, api.ErrRank))
	case "est":
		l = append(l, set(theNaN, api.OK))
	default:
		l = append(l, set(theNaN, api.ErrMut))
	}
	for _, f := range unclean() {
		l = append(l, set(f, api.ErrMut))
	}
	return l
}

func flagTries(x row) []try {
	set := func(is bool, e api.Errno) try { return try{func(m *api.Mut) { m.Flag = is }, e} }
	if x.flag {
		return []try{set(true, api.OK), set(false, api.OK)}
	}
	return []try{set(false, api.OK), set(true, api.ErrMut)}
}

// first is that of the errors which the document names first.
func first(l ...api.Errno) api.Errno {
	for _, e := range []api.Errno{api.ErrMut, api.ErrList, api.ErrTask, api.ErrText, api.ErrRank} {
		for _, x := range l {
			if x == e {
				return e
			}
		}
	}
	return api.OK
}

// tries goes through mutations of the row's Kind with each field as each try makes it, so with nothing wrong, one thing, two, and up to all; and through the error of each.
func tries(x row, look func(m api.Mut, err api.Errno)) {
	for _, id := range idTries(x) {
		for _, list := range listTries(x) {
			for _, text := range textTries(x) {
				for _, f := range floatTries(x) {
					for _, flag := range flagTries(x) {
						m := x.right
						for _, of := range []try{id, list, text, f, flag} {
							of.set(&m)
						}
						look(m, first(id.err, list.err, text.err, f.err, flag.err))
					}
				}
			}
		}
	}
}

// P11.1: a right mutation of each Kind, and what may be at the edges.
func TestCheck(t *testing.T) {
	for i, x := range rows() {
		if x.kind != i+1 || x.kind != kinds()[i] || x.right.Kind != x.kind {
			t.Fatal("row", i, "is of Kind", x.kind)
		}
		mustCheck(t, "right", x.right, api.OK)
	}
	long := strings.Repeat("~", mostTitle)
	for _, m := range []api.Mut{
		{Kind: api.MutList, Id: greatest, Text: long}, {Kind: api.MutMake, Id: 7, List: 7, Text: " ", F: -inf},
		{Kind: api.MutEst, Id: 1, F: theNaN}, {Kind: api.MutEst, Id: 1}, {Kind: api.MutRank, Id: 1}, {Kind: api.MutDone, Id: 1},
		{Kind: api.MutTag, Id: 1, Text: "0123456789abcdef"}, {Kind: api.MutMove, Id: greatest, List: greatest, F: inf},
	} {
		mustCheck(t, "right at the edge", m, api.OK)
	}
}

// P11.1: errors of one field and of two, written out.
func TestCheckByHand(t *testing.T) {
	for _, x := range []struct {
		m   api.Mut
		err api.Errno
	}{
		{api.Mut{}, api.ErrMut},
		{api.Mut{Kind: api.MutList, Text: "l"}, api.ErrList},
		{api.Mut{Kind: api.MutList}, api.ErrList},
		{api.Mut{Kind: api.MutList, Id: 1}, api.ErrText},
		{api.Mut{Kind: api.MutList, List: 1, Text: "l"}, api.ErrMut},
		{api.Mut{Kind: api.MutDrop}, api.ErrList},
		{api.Mut{Kind: api.MutDrop, F: minusZero}, api.ErrMut},
		{api.Mut{Kind: api.MutDrop, List: 1}, api.ErrMut},
		{api.Mut{Kind: api.MutMake}, api.ErrList},
		{api.Mut{Kind: api.MutMake, List: 1}, api.ErrTask},
		{api.Mut{Kind: api.MutMake, List: 1, F: theNaN}, api.ErrTask},
		{api.Mut{Kind: api.MutMake, Id: 1, List: 1, F: theNaN}, api.ErrText},
		{api.Mut{Kind: api.MutMake, Id: 1, List: 1, Text: "t", F: theNaN}, api.ErrRank},
		{api.Mut{Kind: api.MutMake, Id: 1, List: 1, Text: "t", F: minusZero}, api.ErrMut},
		{api.Mut{Kind: api.MutMake, Id: 1, List: 1, Text: "t", Flag: true}, api.ErrMut},
		{api.Mut{Kind: api.MutMove, F: theNaN}, api.ErrList},
		{api.Mut{Kind: api.MutMove, List: 1, F: theNaN}, api.ErrTask},
		{api.Mut{Kind: api.MutRank, F: theNaN}, api.ErrTask},
		{api.Mut{Kind: api.MutRank, Id: 1, F: theNaN}, api.ErrRank},
		{api.Mut{Kind: api.MutRank, Id: 1, F: math.Float64frombits(0x7ff8000000000000)}, api.ErrMut},
		{api.Mut{Kind: api.MutEst, Id: 1, F: math.Float64frombits(0x7ff8000000000000)}, api.ErrMut},
		{api.Mut{Kind: api.MutEst, Id: 1, F: minusZero}, api.ErrMut},
		{api.Mut{Kind: api.MutTag}, api.ErrTask},
		{api.Mut{Kind: api.MutTag, Id: 1, Text: "Shop"}, api.ErrText},
		{api.Mut{Kind: api.MutUntag, Id: 1, Text: "Shop"}, api.ErrText},
		{api.Mut{Kind: api.MutUntag, Id: 1}, api.ErrText},
		{api.Mut{Kind: api.MutClear}, api.ErrList},
		{api.Mut{Kind: api.MutClear, Id: 1}, api.ErrMut},
		{api.Mut{Kind: api.MutSpread}, api.ErrList},
		{api.Mut{Kind: api.MutSpread, Id: 1, List: 1}, api.ErrMut},
		{api.Mut{Kind: api.MutDelete}, api.ErrTask},
		{api.Mut{Kind: api.MutDelete, F: 1}, api.ErrMut},
	} {
		mustCheck(t, "by hand", x.m, x.err)
	}
}

// P11.1: all fields as they may be and as they may not, each with each.
func TestCheckOfEachFieldWithEach(t *testing.T) {
	found := map[int]map[api.Errno]int{}
	for _, x := range rows() {
		found[x.kind] = map[api.Errno]int{}
		tries(x, func(m api.Mut, err api.Errno) {
			mustCheck(t, "each with each", m, err)
			found[x.kind][err]++
		})
	}
	// So that the tries themselves hold what they should.
	for kind, errs := range map[int][]api.Errno{
		api.MutList: {api.ErrMut, api.ErrList, api.ErrText}, api.MutDrop: {api.ErrMut, api.ErrList},
		api.MutMake: {api.ErrMut, api.ErrList, api.ErrTask, api.ErrText, api.ErrRank}, api.MutEdit: {api.ErrMut, api.ErrTask, api.ErrText},
		api.MutDone: {api.ErrMut, api.ErrTask}, api.MutMove: {api.ErrMut, api.ErrList, api.ErrTask, api.ErrRank},
		api.MutRank: {api.ErrMut, api.ErrTask, api.ErrRank}, api.MutEst: {api.ErrMut, api.ErrTask},
		api.MutTag: {api.ErrMut, api.ErrTask, api.ErrText}, api.MutUntag: {api.ErrMut, api.ErrTask, api.ErrText},
		api.MutDelete: {api.ErrMut, api.ErrTask}, api.MutClear: {api.ErrMut, api.ErrList}, api.MutSpread: {api.ErrMut, api.ErrList},
	} {
		for _, e := range append(errs, api.OK) {
			if found[kind][e] == 0 {
				t.Fatal("Kind", kind, "was never tried with the error", e)
			}
		}
		if len(found[kind]) != len(errs)+1 {
			t.Fatal("Kind", kind, "was tried with more errors:", found[kind])
		}
	}
}

// P11.1: Kinds that are none, with nothing else and with what is right of another.
func TestCheckOfNoKind(t *testing.T) {
	for _, kind := range noKinds() {
		mustCheck(t, "no Kind", api.Mut{Kind: kind}, api.ErrMut)
		for _, x := range rows() {
			m := x.right
			m.Kind = kind
			mustCheck(t, "no Kind", m, api.ErrMut)
		}
		mustCheck(t, "no Kind", api.Mut{Kind: kind, F: theNaN}, api.ErrMut)
	}
}

// replaced is s with c at this place.
func replaced(s string, at int, c byte) string { return s[:at] + string([]byte{c}) + s[at+1:] }

// P11.1: Texts of all lengths about the bounds, and with every byte at each place.
func TestCheckOfTexts(t *testing.T) {
	for _, x := range rows() {
		most := map[string]int{"title": mostTitle, "tag": mostTag}[x.text]
		mustCheckText := func(text string, may bool) {
			t.Helper()
			m := x.right
			m.Text = text
			want := api.ErrMut
			switch {
			case text == "" && x.text == "" || may:
				want = api.OK
			case x.text != "":
				want = api.ErrText
			}
			mustCheck(t, "a Text", m, want)
		}
		for _, n := range []int{0, 1, 2, 15, 16, 17, 59, 60, 61, 255, 256, 257, 300, 1 << 16, 1<<16 + 1} {
			mustCheckText(strings.Repeat("a", n), n >= 1 && n <= most)
		}
		for _, n := range []int{1, 2, 16, 60} {
			for at := range n {
				for c := range 256 {
					may := c >= 32 && c <= 126
					if x.text == "tag" {
						may = strings.IndexByte("-0123456789abcdefghijklmnopqrstuvwxyz", byte(c)) >= 0
					}
					mustCheckText(replaced(strings.Repeat("x", n), at, byte(c)), n <= most && may)
				}
			}
		}
	}
}
