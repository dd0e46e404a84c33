package wire_test

import (
	"math"
	"strings"
	"testing"

	"factotum/api"
	"factotum/wire"
)

// itemsByHand are items and their bytes.
func itemsByHand() map[string]api.Item {
	return map[string]api.Item{
		"\x04\x05\x0d\x02\x7f\x00\x00" + key0 + "\x00":                                   item(4, 5, api.Mut{Kind: api.MutDrop, Id: 127}),
		"\x81\x80\x82\x01\x2c\x11\x01\x03\x00\x04food" + key0 + "\x00":                   item(128, 300, api.Mut{Kind: api.MutList, Id: 3, Text: "food"}),
		"\x88\xff\xff\xff\xff\xff\xff\xff\xff\x01\x0d\x05\x02\x00\x00" + key0 + "\x01":   item(greatest, 1, api.Mut{Kind: api.MutDone, Id: 2, Flag: true}),
		"\x01\x88\x80\x00\x00\x00\x00\x00\x00\x00\x0d\x08\x02\x00\x00" + keyNaN + "\x00": item(1, 1<<63, api.Mut{Kind: api.MutEst, Id: 2, F: theNaN}),
		"\x01\x01\x0d\x08\x02\x00\x00" + key1 + "\x00":                                   item(1, 1, api.Mut{Kind: api.MutEst, Id: 2, F: 1}),
		"\x7f\x7f\x0d\x06\x02\x03\x00" + keyAbove + "\x00":                               item(127, 127, api.Mut{Kind: api.MutMove, Id: 2, List: 3, F: inf}),
		"\x01\x02\x0d\x07\x02\x00\x00" + keyBelow + "\x00":                               item(1, 2, api.Mut{Kind: api.MutRank, Id: 2, F: -inf}),
		"\x01\x02\x49\x04\x02\x00\x3c" + strings.Repeat("~", 60) + key0 + "\x00":         item(1, 2, api.Mut{Kind: api.MutEdit, Id: 2, Text: strings.Repeat("~", 60)}),
	}
}

// P15.3: items by hand, and with each mutation, there and back.
func TestItemsByHand(t *testing.T) {
	for b, x := range itemsByHand() {
		passItem(t, "by hand", x, b)
	}
	for _, m := range muts() {
		for _, n := range []uint64{1, 2, 127, 128, 255, 256, 1 << 16, 1 << 32, 1 << 63, greatest} {
			passItem(t, "a mutation", item(n, 7, m), itemBytes(item(n, 7, m)))
			passItem(t, "a mutation", item(7, n, m), itemBytes(item(7, n, m)))
		}
	}
}

// asItem asks that b is what the chapter's words tell: an item, or none.
func asItem(t *testing.T, what, b string) {
	t.Helper()
	x, is := itemOf(b)
	if !is {
		noItem(t, what, b)
		return
	}
	passItem(t, what, x, b)
}

// P15.3: PutItem writes what OfItem refuses, too: an Ident or an Id of 0, and mutations that Check doesn't pass.
func TestPutItemOfWrongItems(t *testing.T) {
	for _, x := range wrongItems() {
		mustPutItem(t, "a wrong item", x, itemBytes(x))
		if f := x.Mut.F; f == f && bits(f) != bits(minusZero) {
			noItem(t, "a wrong item", itemBytes(x))
			continue
		}
		// It has the bytes of one with a float that is Canon.
		asItem(t, "a wrong item", itemBytes(x))
	}
	mustPutItem(t, "nothing", api.Item{}, "\x00\x00\x0d\x00\x00\x00\x00"+key0+"\x00")
	noItem(t, "nothing", "\x00\x00\x0d\x00\x00\x00\x00"+key0+"\x00")
	mustPutItem(t, "a Kind below 0", item(1, 2, api.Mut{Kind: -1}), "\x01\x02\x15\x88\xff\xff\xff\xff\xff\xff\xff\xff\x00\x00\x00"+key0+"\x00")
	for b, x := range itemsByHand() {
		x.Ident = 0
		mustPutItem(t, "no Ident", x, itemBytes(x))
		noItem(t, "no Ident", itemBytes(x))
		x, _ = itemOf(b)
		x.Id = 0
		mustPutItem(t, "no Id", x, itemBytes(x))
		noItem(t, "no Id", itemBytes(x))
	}
	for _, n := range []int{61, 127, 128, 255, 256, 59990, 60000, 65536, 200000} {
		x := item(1, 2, api.Mut{Kind: api.MutEdit, Id: 1, Text: strings.Repeat("t", n)})
		mustPutItem(t, "a long text", x, itemBytes(x))
		noItem(t, "a long text", itemBytes(x))
	}
}

// P15.3: floats that aren't Canon come back as those that are.
func TestItemsOfUncleanFloats(t *testing.T) {
	for _, x := range []struct{ f, clean float64 }{{minusZero, 0}, {otherNaN, theNaN}} {
		m := api.Mut{Kind: api.MutEst, Id: 2, F: x.f}
		b := itemBytes(item(1, 1, m))
		mustPutItem(t, "not Canon", item(1, 1, m), b)
		m.F = x.clean
		passItem(t, "Canon", item(1, 1, m), b)
	}
}

// P15.3: no bytes, bytes cut at every place, more of them, one changed at every place.
func TestOfItemOfOtherBytes(t *testing.T) {
	noItem(t, "no bytes", "")
	if x, e := wire.OfItem(nil); e != api.ErrWire || x != (api.Item{}) {
		t.Fatalf("OfItem nil: %d, %s", e, toldItem(x))
	}
	for b, x := range itemsByHand() {
		for n := range len(b) {
			noItem(t, "cut", b[:n])
			asItem(t, "cut ahead", b[n+1:])
		}
		for _, more := range []string{"\x00", "\x01", "\x7f", "\x80", "\xff", b, strings.Repeat("\x00", 300)} {
			noItem(t, "more behind", b+more)
			asItem(t, "more ahead", more+b)
		}
		noItem(t, "in a frame", framed(b))
		noItem(t, "as bytes", text(b))
		noItem(t, "the mutation alone", mutBytes(x.Mut))
		noItem(t, "the mutation as it is", num(x.Ident)+num(x.Id)+mutBytes(x.Mut))
		for i := range b {
			for c := range 256 {
				asItem(t, "changed", b[:i]+string([]byte{byte(c)})+b[i+1:])
			}
		}
	}
}

// P15.3, P15.4: each piece in another form, or another one in its place.
func TestOfItemOfOtherPieces(t *testing.T) {
	for b, x := range itemsByHand() {
		l := []string{num(x.Ident), num(x.Id), text(mutBytes(x.Mut))}
		if b != strings.Join(l, "") {
			t.Fatalf("by hand there is %q", b)
		}
		for i, piece := range l {
			with := func(p string) string { return strings.Join(l[:i], "") + p + strings.Join(l[i+1:], "") }
			for k := 1; k <= 12; k++ {
				asItem(t, "a longer form", with(string([]byte{byte(128 + k)})+strings.Repeat("\x00", k-1)+piece))
				noItem(t, "noughts ahead", with(string([]byte{byte(128 + k)})+strings.Repeat("\x00", k)+piece))
			}
			noItem(t, "no bytes behind", with("\x80"))
			noItem(t, "nine bytes", with("\x89\x01\x00\x00\x00\x00\x00\x00\x00\x00"))
			for _, n := range numbers() {
				asItem(t, "another number", with(num(n)))
				asItem(t, "a number ahead", with(num(n)+piece))
				asItem(t, "another length", with(num(n)+piece[1:]))
			}
			asItem(t, "gone", with(""))
			asItem(t, "doubled", with(piece+piece))
			noItem(t, "more in the mutation", strings.Join(l[:2], "")+text(mutBytes(x.Mut)+"\x00"))
			noItem(t, "less in the mutation", strings.Join(l[:2], "")+text(strings.TrimSuffix(mutBytes(x.Mut), "\x00")[:5]))
		}
	}
}

// otherItems differ from x in one thing each.
func otherItems(x api.Item) []api.Item {
	var l []api.Item
	change := func(do func(x *api.Item)) {
		y := x
		do(&y)
		l = append(l, y)
	}
	for _, n := range []uint64{1, 1 << 8, 1 << 16, 1 << 32, 1 << 63} {
		change(func(x *api.Item) { x.Ident += n })
		change(func(x *api.Item) { x.Id += n })
		change(func(x *api.Item) { x.Mut.Id += n })
		change(func(x *api.Item) { x.Mut.List += n })
	}
	for _, n := range []int{1, -1, 13, 1 << 8, 1 << 32, math.MinInt} {
		change(func(x *api.Item) { x.Mut.Kind += n })
	}
	for _, f := range []float64{1, -1, 2, inf, -inf, theNaN, 0} {
		if f != x.Mut.F && !(f != f && x.Mut.F != x.Mut.F) {
			change(func(x *api.Item) { x.Mut.F = f })
		}
	}
	change(func(x *api.Item) { x.Mut.Text += " " })
	change(func(x *api.Item) { x.Mut.Text = "x" + x.Mut.Text })
	if n := len(x.Mut.Text); n > 0 {
		change(func(x *api.Item) { x.Mut.Text = x.Mut.Text[:n-1] })
		change(func(x *api.Item) { x.Mut.Text = "\x00" + x.Mut.Text[1:] })
	}
	change(func(x *api.Item) { x.Mut.Flag = !x.Mut.Flag })
	return l
}

// P15.3: SameItem of items alike, and of ones that differ in one thing, also of ones that may not be; noughts are one, and NaNs.
func TestSameItem(t *testing.T) {
	l := wrongItems()
	for _, x := range itemsByHand() {
		l = append(l, x)
	}
	for _, x := range l {
		y := x
		y.Mut.Text = strings.Clone(x.Mut.Text)
		if !wire.SameItem(x, y) {
			t.Fatalf("%s isn't the same as itself", toldItem(x))
		}
		for _, y := range otherItems(x) {
			if wire.SameItem(x, y) || wire.SameItem(y, x) {
				t.Fatalf("%s is the same as %s", toldItem(x), toldItem(y))
			}
		}
		for _, pair := range [][2]float64{{0, minusZero}, {theNaN, otherNaN}, {theNaN, theNaN}, {otherNaN, math.NaN()}} {
			a, b := x, x
			a.Mut.F, b.Mut.F = pair[0], pair[1]
			if !wire.SameItem(a, b) || !wire.SameItem(b, a) {
				t.Fatalf("%s isn't the same as %s", toldItem(a), toldItem(b))
			}
		}
	}
	x, y := item(3, 4, muts()[0]), item(4, 3, muts()[0])
	if wire.SameItem(x, y) {
		t.Fatal("Ident and Id turned round are the same")
	}
}
