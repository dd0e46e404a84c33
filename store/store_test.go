package store_test

import (
	"slices"
	"strconv"
	"testing"

	"factotum/api"
	"factotum/disk"
	"factotum/store"
)

// P8.3: Commit of no Puts writes nothing and is OK: on a Store, on one at an end, on one that nobody made.
func TestCommitOfNoPuts(t *testing.T) {
	d, s := fresh(t, 4)
	for _, l := range [][]api.Put{nil, {}} {
		mustRefuse(t, "Commit of none", s, d, nil, api.OK, func() api.Errno { return s.Commit(l...) })
	}
	kill(t, d)
	mustBe(t, "Commit of none", s.Commit(), api.OK)
	mustBe(t, "Commit", s.Commit(put("a", "1")), api.ErrDisk)
	for range 2 {
		mustBe(t, "Commit of none at an end", s.Commit(), api.OK)
		mustBe(t, "Commit at an end", s.Commit(put("a", "1")), api.ErrDisk)
		d.Crash()
	}
	mustBe(t, "Commit of none of a nil Store", (*store.Store)(nil).Commit(), api.OK)
	mustBe(t, "Commit of none of a zero Store", (&store.Store{}).Commit(), api.OK)
}

// P8.3: Commit of one, of several, of several of one key, of Gone ones that are there and that aren't: each a record of its Puts, which happen in order.
func TestCommit(t *testing.T) {
	d, s := fresh(t, 40)
	h := there{}
	records := []string{recorded(true)}
	for i, l := range [][]api.Put{
		puts(put("a", "1")),
		puts(put("b", "2"), put("c", "3"), put("", "4")),
		puts(put("a", "5"), put("a", "6"), put("a", "7")),
		puts(gone("b")),
		puts(gone("b"), gone("never")),
		puts(gone("c"), put("c", "8")),
		puts(put("c", "9"), gone("c")),
		puts(put("d", ""), put("a", "")),
		puts(api.Put{Key: "a", Val: []byte("value"), Gone: true}),
		puts(put("z", text(70, 1)), put("y", text(3, 2)), gone("")),
		puts(put("y", text(3, 2))),
		puts(gone("z"), gone("y"), gone("d")),
	} {
		what := "Commit " + strconv.Itoa(i)
		h = h.happened(l...)
		records = append(records, recorded(false, l...))
		mustBe(t, what, s.Commit(l...), api.OK)
		mustTell(t, what, s, h)
		mustCount(t, what, s, len(records))
		d.Crash()
		mustHave(t, what, d, records...)
		mustOpen(t, what, d, h)
	}
	if len(h) != 0 {
		t.Fatalf("%v is there", h)
	}
}

// P8.3: 4096 Puts, and one more, be they all of one key, at once too long for a wal, or more than a ring holds.
func TestCommitOfTooManyPuts(t *testing.T) {
	l := shorts(0, most)
	for _, ring := range []int{1, 2, 4094} {
		d, s := fresh(t, ring)
		for _, more := range [][]api.Put{shorts(0, most+1), slices.Repeat(puts(put("a", "1")), most+1), slices.Repeat(puts(gone("")), 1<<16), slices.Repeat(puts(put("a", text(100, 1))), most+1)} {
			mustRefuse(t, "Commit of too many", s, d, nil, api.ErrLong, func() api.Errno { return s.Commit(more...) })
		}
	}
	d, s := fresh(t, 4094)
	mustBe(t, "Commit of 4096", s.Commit(l...), api.OK)
	h := there{}.happened(l...)
	mustOpen(t, "Commit of 4096", d, h)
	mustBe(t, "Commit of 4096 of one key", s.Commit(slices.Repeat(puts(put(short(7), "1"), gone(short(7))), most/2)...), api.OK)
	delete(h, short(7))
	mustOpen(t, "Commit of 4096 of one key", d, h)
}

// P8.3: 4096 keys may be there, as that is how many Puts a record may have; what Compact makes is told by Open.
func TestKeysUpToTheMost(t *testing.T) {
	d, s := fresh(t, 4094)
	h := there{}
	for from := 0; from < most; from += most / 4 {
		l := shorts(from, most/4)
		h = h.happened(l...)
		mustBe(t, "Commit", s.Commit(l...), api.OK)
	}
	for _, l := range [][]api.Put{puts(put("one more", "")), puts(gone(short(3)), put("one more", ""), put("two more", "")), shorts(most-3, 4)} {
		mustRefuse(t, "Commit of a key more", s, d, h, api.ErrLong, func() api.Errno { return s.Commit(l...) })
	}
	for _, l := range [][]api.Put{puts(put(short(3), "1")), puts(put("one more", ""), gone(short(3))), puts(put("two more", ""), gone("two more"))} {
		h = h.happened(l...)
		mustBe(t, "Commit of no key more", s.Commit(l...), api.OK)
		mustOpen(t, "Commit of no key more", d, h)
	}
	mustBe(t, "Compact", s.Compact(), api.OK)
	mustHave(t, "Compact", d, h.whole())
	mustOpen(t, "Compact", d, h)
}

// P8.3: a record as long as a wal takes, and one byte more, by its value, its key, its Gone one.
func TestCommitOfTooLongARecord(t *testing.T) {
	d, s := fresh(t, 4094)
	n := long - len(recorded(false, put("k", text(1000, 1)))) + 1000
	for _, l := range [][]api.Put{
		puts(put("k", text(n+1, 1))),
		puts(put(text(n-1, 1), "123")),
		puts(put("", text(long, 1))),
		puts(put("", text(1<<17, 1))),
		puts(gone(text(long, 1))),
		puts(put("a", text(n, 1)), gone("a")),
		puts(gone("k"), put("k", text(n, 1))),
		puts(put("a", text(40000, 1)), put("a", text(40000, 1)), put("a", "")),
	} {
		mustRefuse(t, "Commit of too long a record", s, d, nil, api.ErrLong, func() api.Errno { return s.Commit(l...) })
	}
	h := there{"k": text(n, 1)}
	mustBe(t, "Commit", s.Commit(put("k", text(n, 1))), api.OK)
	mustHave(t, "Commit", d, recorded(true), recorded(false, put("k", text(n, 1))))
	mustBe(t, "Compact", s.Compact(), api.OK)
	mustHave(t, "Compact", d, h.whole())
	mustOpen(t, "Compact", d, h)
}

// P8.3: a short record, behind which that of all would be too long.
func TestCommitWhereAllIsTooLong(t *testing.T) {
	d, s := fresh(t, 4094)
	h := there{"a": text(40000, 1)}
	mustBe(t, "Commit", s.Commit(put("a", text(40000, 1))), api.OK)
	n := long - len(h.happened(put("b", text(1000, 2))).whole()) + 1000
	for _, l := range [][]api.Put{puts(put("b", text(n+1, 2))), puts(put("b", text(n, 2)), put("c", "")), puts(put("b", text(n-3, 2)), put("c", "")), puts(put("bb", text(n, 2)))} {
		mustRefuse(t, "Commit where all is too long", s, d, h, api.ErrLong, func() api.Errno { return s.Commit(l...) })
	}
	for _, l := range [][]api.Put{puts(put("b", text(n, 2))), puts(put("b", text(n-4, 2)), put("", "")), puts(gone("a"), put("b", text(50000, 3)))} {
		h = h.happened(l...)
		mustBe(t, "Commit", s.Commit(l...), api.OK)
		mustOpen(t, "Commit", d, h)
	}
	mustBe(t, "Compact", s.Compact(), api.OK)
	mustHave(t, "Compact", d, h.whole())
	mustOpen(t, "Compact", d, h)
}

// P8.3: what others have laid may be more than one record holds: then there is no Compact of it, but a Commit that makes it less.
func TestAllTooLongFromTheStart(t *testing.T) {
	a, b := put("a", text(40000, 1)), put("b", text(40000, 2))
	for _, x := range []struct {
		records []string
		h       there
		less    []api.Put
	}{
		{[]string{recorded(true, a), recorded(false, b)}, there{}.happened(a, b), puts(gone("a"))},
		{[]string{recorded(true, shorts(0, most)...), recorded(false, put("more", ""))}, there{"more": ""}.happened(shorts(0, most)...), puts(gone("more"))},
	} {
		d := laid(t, 4094, x.records...)
		s := mustOpen(t, "Open", d, x.h)
		mustRefuse(t, "Compact", s, d, x.h, api.ErrLong, s.Compact)
		mustRefuse(t, "Commit", s, d, x.h, api.ErrLong, func() api.Errno { return s.Commit(put("c", "3")) })
		mustRefuse(t, "Commit", s, d, x.h, api.ErrLong, func() api.Errno { return s.Commit(gone("never")) })
		after := x.h.happened(x.less...)
		mustBe(t, "Commit that makes it less", s.Commit(x.less...), api.OK)
		mustOpen(t, "Commit that makes it less", d, after)
		mustBe(t, "Compact", s.Compact(), api.OK)
		mustOpen(t, "Compact", d, after)
	}
	// There is room for the two records only behind a Compact, which there isn't.
	d := laid(t, 1852, recorded(true, a), recorded(false, b))
	s := mustOpen(t, "Open", d, there{}.happened(a, b))
	mustRefuse(t, "Commit that needs a Compact", s, d, there{}.happened(a, b), api.ErrLong, func() api.Errno { return s.Commit(gone("a")) })
}

// ways a Commit goes that isn't too long: the record fits, it fits behind a Compact, it doesn't fit then, there isn't room for a Compact.
const (
	fits = iota
	fitsThen
	fitsNot
	compactsNot
)

// wayOf is the way of a Commit where so many sectors of a ring are free, and how many are behind it.
func wayOf(ring, free int, h there, l []api.Put) (way, left int) {
	own, all, now := sectors(recorded(false, l...)), sectors(h.happened(l...).whole()), sectors(h.whole())
	switch {
	case own+all <= free:
		return fits, free - own
	case now > free:
		return compactsNot, free
	case own+all <= ring-now:
		return fitsThen, ring - now - own
	}
	return fitsNot, ring - now
}

// P8.3: on rings of all sizes, values up to where they don't fit any more.
func TestCommitUpToTheLastSector(t *testing.T) {
	var went [4]int
	for ring := 1; ring < 13; ring++ {
		for n := 0; n < ring*size/2+2*size; n += 1 + n%3 {
			d, s := fresh(t, ring)
			h := there{}
			free := ring - 1
			for i := range 3 {
				what := "ring " + strconv.Itoa(ring) + ", " + strconv.Itoa(n) + " bytes, Commit " + strconv.Itoa(i)
				l := puts(put("k", text(n, i)))
				way, left := wayOf(ring, free, h, l)
				went[way]++
				records, want := s.Records()+1, api.OK
				switch way {
				case fitsThen:
					records = 2
				case fitsNot:
					records, want = 1, api.ErrFull
				case compactsNot:
					records, want = s.Records(), api.ErrFull
				}
				free = left
				mustBe(t, what, s.Commit(l...), want)
				if want == api.OK {
					h = h.happened(l...)
				}
				mustTell(t, what, s, h)
				mustCount(t, what, s, records)
				mustOpen(t, what, d, h)
			}
		}
	}
	if slices.Contains(went[:], 0) {
		t.Errorf("not all ways were gone: %d", went)
	}
}

// P8.3: what fits to the last sector: the two records together are as many sectors as are free.
func TestCommitThatJustFits(t *testing.T) {
	d, s := fresh(t, 9)
	// 8 are free: a record of 4, one of all of 4.
	a := put("a", text(4*size-7-len(recorded(false, put("a", text(200, 1))))+200, 1))
	more := put("a", string(a.Val)+"x")
	p := d.Clone()
	v := mustOpen(t, "Open", p, nil)
	mustBe(t, "Commit of a sector more", v.Commit(more), api.ErrFull)
	mustHave(t, "Commit of a sector more", p, recorded(true))
	mustBe(t, "Commit that just fits", s.Commit(a), api.OK)
	mustHave(t, "Commit that just fits", d, recorded(true), recorded(false, a))
	// 4 are free: just enough for a Compact.
	mustBe(t, "Compact", s.Compact(), api.OK)
	mustHave(t, "Compact", d, recorded(true, a))
	mustOpen(t, "Compact", d, there{"a": string(a.Val)})
	// 5 are free: one of a Gone one, and that of all, which is nothing then.
	mustBe(t, "Commit of a key that goes", s.Commit(gone("a")), api.OK)
	mustHave(t, "Commit of a key that goes", d, recorded(true, a), recorded(false, gone("a")))
}

// P8.3: what fits only behind a Compact, and what doesn't fit then, behind which the Compact stays; a Store goes on behind each.
func TestCommitBehindACompact(t *testing.T) {
	d, s := fresh(t, 6)
	h := there{}
	records := []string{recorded(true)}
	add := func(what string, l ...api.Put) {
		t.Helper()
		h = h.happened(l...)
		records = append(records, recorded(false, l...))
		mustBe(t, what, s.Commit(l...), api.OK)
		mustHave(t, what, d, records...)
		mustTell(t, what, s, h)
		mustCount(t, what, s, len(records))
	}
	for i := range 4 {
		add("Commit that fits", put("k", strconv.Itoa(i)), put("b", "x"))
	}
	records = []string{h.whole()}
	add("Commit behind a Compact", put("k", "4"))
	add("Commit that fits", put("a", "5"))
	records = []string{h.whole()}
	for range 2 {
		mustBe(t, "Commit that doesn't fit", s.Commit(put("c", text(3*size, 1))), api.ErrFull)
		mustHave(t, "Commit that doesn't fit", d, records...)
		mustTell(t, "Commit that doesn't fit", s, h)
		mustCount(t, "Commit that doesn't fit", s, 1)
		mustOpen(t, "Commit that doesn't fit", d, h)
	}
	add("Commit that fits", gone("k"), put("c", "6"))
}

// P8.3: where there isn't room for a Compact, as others have laid it, its error is Commit's.
func TestNoRoomForACompact(t *testing.T) {
	for _, ring := range []int{2, 3} {
		d := laid(t, ring, recorded(true, put("a", "1")), recorded(false, put("b", text(100*(ring-2), 2))))
		h := there{"a": "1", "b": text(100*(ring-2), 2)}
		s := mustOpen(t, "Open", d, h)
		mustRefuse(t, "Compact", s, d, h, api.ErrFull, s.Compact)
		for _, p := range []api.Put{put("a", "1"), gone("a"), gone("never"), put("c", text(300, 1))} {
			mustRefuse(t, "Commit", s, d, h, api.ErrFull, func() api.Errno { return s.Commit(p) })
		}
	}
	d, s := fresh(t, 1)
	mustRefuse(t, "Compact", s, d, nil, api.ErrFull, s.Compact)
	mustRefuse(t, "Commit", s, d, nil, api.ErrFull, func() api.Errno { return s.Commit(gone("a")) })
}

// P8.3: Compact of nothing, and of several keys in whatever order they came: one record, keys rising.
func TestCompact(t *testing.T) {
	d, s := fresh(t, 20)
	for range 2 {
		mustBe(t, "Compact of nothing", s.Compact(), api.OK)
		mustHave(t, "Compact of nothing", d, "\x01\x00")
		mustTell(t, "Compact of nothing", s, nil)
		mustCount(t, "Compact of nothing", s, 1)
		mustOpen(t, "Compact of nothing", d, nil)
	}
	keys := []string{"b", "a", "", "ab", "\xff", "B", "a\x00", "é", "\x80", "aa", "\xc3"}
	for from := range keys {
		d, s := fresh(t, 60)
		h := there{}
		for i := range keys {
			key := keys[(from+i*4)%len(keys)]
			h[key] = strconv.Itoa(i)
			mustBe(t, "Commit", s.Commit(put(key, h[key]), put("gone", "x"), gone("gone")), api.OK)
		}
		for range 2 {
			mustBe(t, "Compact", s.Compact(), api.OK)
			mustHave(t, "Compact", d, h.whole())
			mustTell(t, "Compact", s, h)
			mustCount(t, "Compact", s, 1)
			d.Crash()
			mustOpen(t, "Compact", d, h)
		}
		mustBe(t, "Commit", s.Commit(gone("b")), api.OK)
		delete(h, "b")
		mustCount(t, "Commit", s, 2)
		mustOpen(t, "Commit", d, h)
	}
	want := "\x01\x03\x00\x00\x01x\x01a\x00\x011\x02aa\x00\x00"
	mustBe(t, "Commit", s.Commit(put("aa", ""), put("", "x"), put("c", ""), put("a", "1"), gone("c")), api.OK)
	mustBe(t, "Compact", s.Compact(), api.OK)
	mustHave(t, "Compact", d, want)
}

// changes are the calls that write.
func changes() map[string]func(s *store.Store) api.Errno {
	return map[string]func(s *store.Store) api.Errno{
		"Commit":                  func(s *store.Store) api.Errno { return s.Commit(put("b", "2"), gone("a")) },
		"Commit behind a Compact": func(s *store.Store) api.Errno { return s.Commit(put("b", text(3*size, 1))) },
		"Compact":                 (*store.Store).Compact,
	}
}

// P8.3: a Store whose disk dies within a call is at an end, also where the disk lives again: ErrDisk of whatever is asked, but what is there is told.
func TestAStoreAtAnEnd(t *testing.T) {
	h := there{"a": "1"}
	for name, call := range changes() {
		for steps := range 4 {
			d := laid(t, 9, recorded(true, put("a", "x")), recorded(false, put("a", "1")))
			s := mustOpen(t, "Open", d, h)
			d.Arm(steps)
			mustBe(t, name, call(s), api.ErrDisk)
			for range 2 {
				for other, next := range changes() {
					mustBe(t, other+" behind the end", next(s), api.ErrDisk)
				}
				mustBe(t, "Commit of too many", s.Commit(shorts(0, most+1)...), api.ErrDisk)
				mustBe(t, "Commit of too long a record", s.Commit(put("a", text(long, 1))), api.ErrDisk)
				mustBe(t, "Commit that doesn't fit", s.Commit(put("a", text(50*size, 1))), api.ErrDisk)
				mustBe(t, "Commit of none", s.Commit(), api.OK)
				mustTell(t, name, s, h)
				mustCount(t, name, s, 2)
				d.Crash()
			}
			mustBe(t, "Commit", mustOpen(t, name, d, h).Commit(put("b", "3")), api.OK)
			mustOpen(t, "Commit", d, there{"a": "1", "b": "3"})
			mustTell(t, name, s, h)
		}
	}
}

// P8.3: a disk that dies behind a Commit's Compact: the Store is at an end, with one record.
func TestAnEndBehindACompact(t *testing.T) {
	h := there{"a": "1"}
	for steps := 4; steps < 11; steps++ {
		d := laid(t, 9, recorded(true, put("a", "x")), recorded(false, put("a", "1")))
		s := mustOpen(t, "Open", d, h)
		d.Arm(steps)
		mustBe(t, "Commit", s.Commit(put("b", text(3*size, 1))), api.ErrDisk)
		mustTell(t, "Commit", s, h)
		mustCount(t, "Commit", s, 1)
		d.Crash()
		mustHave(t, "Commit", d, h.whole())
		mustBe(t, "Commit", s.Commit(put("b", "2")), api.ErrDisk)
		mustBe(t, "Compact", s.Compact(), api.ErrDisk)
		mustTell(t, "Commit", mustOpen(t, "Commit", d, h), h)
	}
}

// P8.3: where the disk is Dead already, a call that is refused ahead of writing doesn't end the Store, any other does.
func TestADeadDisk(t *testing.T) {
	for name, call := range changes() {
		d := laid(t, 9, recorded(true, put("a", "1")), recorded(false), recorded(false))
		s := mustOpen(t, "Open", d, there{"a": "1"})
		kill(t, d)
		mustBe(t, "Commit of too many", s.Commit(shorts(0, most+1)...), api.ErrLong)
		mustBe(t, "Commit of too long a record", s.Commit(put("a", text(long, 1))), api.ErrLong)
		mustBe(t, "Commit where all is too long", s.Commit(put("b", text(long-10, 1))), api.ErrLong)
		mustBe(t, "Commit of none", s.Commit(), api.OK)
		d.Crash()
		mustBe(t, "Commit", s.Commit(put("a", "2")), api.OK)
		kill(t, d)
		mustBe(t, name, call(s), api.ErrDisk)
		d.Crash()
		mustBe(t, name, call(s), api.ErrDisk)
		mustTell(t, name, s, there{"a": "2"})
		mustOpen(t, name, d, there{"a": "2"})
	}
	// A Commit that doesn't fit ends it, as its Compact is what fails.
	d := laid(t, 6, recorded(true, put("a", "1")))
	s := mustOpen(t, "Open", d, there{"a": "1"})
	kill(t, d)
	mustBe(t, "Commit that doesn't fit", s.Commit(put("b", text(50*size, 1))), api.ErrDisk)
	d.Crash()
	mustBe(t, "Commit", s.Commit(put("b", "2")), api.ErrDisk)
}

// P8.4: Get of a key that is there, with a value of nothing or of something, of one that is Gone, of one that never was.
func TestGet(t *testing.T) {
	d, s := fresh(t, 20)
	mustBe(t, "Commit", s.Commit(put("milk", "two"), put("", "x"), put("bread", ""), put("cake", "1")), api.OK)
	mustBe(t, "Commit", s.Commit(gone("cake")), api.OK)
	for _, s := range []*store.Store{s, mustOpen(t, "Open", d, there{"milk": "two", "": "x", "bread": ""})} {
		for _, x := range []struct {
			key, val string
			is       bool
		}{{"milk", "two", true}, {"", "x", true}, {"bread", "", true}, {"cake", "", false}, {"never", "", false}, {"mil", "", false}, {"milk\x00", "", false}, {"Milk", "", false}} {
			if val, is := s.Get(x.key); string(val) != x.val || is != x.is {
				t.Errorf("Get of %q: %q, %t, not %q, %t", x.key, val, is, x.val, x.is)
			}
		}
	}
}

// keysOf are the keys and values that begin so, up to n of them.
func keysOf(s *store.Store, prefix string, n int) []string {
	var l []string
	for key, val := range s.Keys(prefix) {
		l = append(l, key+"="+string(val))
		if len(l) == n {
			break
		}
	}
	return l
}

// P8.4: Keys of a prefix of nothing, of some, of one that no key has, rising; left within, and gone through again.
func TestKeys(t *testing.T) {
	d, s := fresh(t, 40)
	mustBe(t, "Commit", s.Commit(put("b", "1"), put("ab", "2"), put("", "3"), put("\xff", "4"), put("a", ""), put("a\xff", "6"), put("gone", "7"), put("\xff\xff", "8"), put("a\x00", "9"), gone("gone"), put("B", "10")), api.OK)
	all := []string{"=3", "B=10", "a=", "a\x00=9", "ab=2", "a\xff=6", "b=1", "\xff=4", "\xff\xff=8"}
	for _, s := range []*store.Store{s, mustOpen(t, "Open", d, there{"b": "1", "ab": "2", "": "3", "\xff": "4", "a": "", "a\xff": "6", "\xff\xff": "8", "a\x00": "9", "B": "10"})} {
		for _, x := range []struct {
			prefix string
			want   []string
		}{
			{"", all}, {"a", all[2:6]}, {"ab", all[4:5]}, {"abc", nil}, {"a\x00", all[3:4]}, {"\xff", all[7:]}, {"\xff\xff", all[8:]}, {"\xff\xff\xff", nil},
			{"b", all[6:7]}, {"B", all[1:2]}, {"c", nil}, {"gone", nil}, {"A", nil}, {"\x00", nil},
		} {
			for n := range len(x.want) + 2 {
				want := x.want
				if n > 0 && n < len(want) {
					want = want[:n]
				}
				if got := keysOf(s, x.prefix, n); !slices.Equal(got, want) {
					t.Errorf("Keys of %q, up to %d: %q, not %q", x.prefix, n, got, want)
				}
			}
		}
		seq := s.Keys("a")
		for range 3 {
			count := 0
			for range seq {
				if count++; count == 2 {
					break
				}
			}
			got := []string{}
			for key := range seq {
				for inner := range seq {
					got = append(got, key+inner)
				}
			}
			if count != 2 || len(got) != 16 || got[5] != "a\x00a\x00" {
				t.Fatalf("gone through again: %d, %q", count, got)
			}
		}
	}
}

// P2: what Keys answered tells what was there, whatever is committed behind it or within.
func TestKeysOfWhatWasThere(t *testing.T) {
	d, s := fresh(t, 30)
	mustBe(t, "Commit", s.Commit(put("a", "1"), put("b", "2"), put("c", "3")), api.OK)
	seq := s.Keys("")
	mustBe(t, "Commit", s.Commit(gone("a"), put("b", "9"), put("d", "4")), api.OK)
	mustBe(t, "Compact", s.Compact(), api.OK)
	for range 2 {
		var got []string
		for key, val := range seq {
			got = append(got, key+"="+string(val))
		}
		if !slices.Equal(got, []string{"a=1", "b=2", "c=3"}) {
			t.Fatalf("Keys: %q", got)
		}
	}
	h := there{"b": "9", "c": "3", "d": "4"}
	for key := range s.Keys("") {
		mustBe(t, "Commit within", s.Commit(gone(key), put("x"+key, key)), api.OK)
		h = h.happened(gone(key), put("x"+key, key))
	}
	mustTell(t, "Commit within", s, there{"xb": "b", "xc": "c", "xd": "d"})
	mustOpen(t, "Commit within", d, h)
}

// P1 and P8.4: a Store that nobody made.
func TestAStoreThatNobodyMade(t *testing.T) {
	for _, s := range []*store.Store{nil, {}} {
		for name, call := range changes() {
			mustBe(t, name, call(s), api.ErrDisk)
		}
		mustBe(t, "Commit of too many", s.Commit(shorts(0, most+1)...), api.ErrDisk)
		mustBe(t, "Commit of too long a record", s.Commit(put("a", text(long, 1))), api.ErrDisk)
		mustBe(t, "Commit of none", s.Commit(), api.OK)
		for _, key := range []string{"", "a"} {
			if val, is := s.Get(key); is || len(val) != 0 {
				t.Errorf("Get: %q, %t", val, is)
			}
			for key := range s.Keys(key) {
				t.Errorf("Keys tells %q", key)
			}
		}
		mustCount(t, "nobody made it", s, 0)
	}
}

// P2: what the caller does with Puts behind a Commit isn't seen; they aren't changed, nor is what lies behind them.
func TestPutsAreNotShared(t *testing.T) {
	d, s := fresh(t, 12)
	given := []byte("two and more")
	list := puts(api.Put{Key: "milk", Val: given[:3]}, api.Put{Key: "b", Val: given[4:7], Gone: true}, put("behind", "x"))
	mustBe(t, "Commit", s.Commit(list[:2]...), api.OK)
	if string(given) != "two and more" || list[0].Key != "milk" || string(list[1].Val) != "and" || !list[1].Gone || list[2].Key != "behind" {
		t.Fatal("what was given is changed")
	}
	clear(given)
	clear(list)
	mustTell(t, "Commit", s, there{"milk": "two"})
	mustBe(t, "Compact", s.Compact(), api.OK)
	mustOpen(t, "Compact", d, there{"milk": "two"})
}

// P2: what the caller does with what Get and Keys answered isn't seen, by the Store, by another answer, by one opened anew.
func TestAnswersAreNotShared(t *testing.T) {
	h := there{"a": "one", "b": "two", "c": "three"}
	d := laid(t, 12, recorded(true, put("a", "one"), put("b", "two")), recorded(false, put("c", "three")))
	s := mustOpen(t, "Open", d, h)
	spoil := func(b []byte) {
		_ = append(b, "more"...)
		clear(b[:cap(b)])
	}
	for range 2 {
		seq := s.Keys("")
		for range 2 {
			for key, val := range seq {
				if string(val) != h[key] {
					t.Fatalf("Keys: %q = %q, not %q", key, val, h[key])
				}
				other, _ := s.Get(key)
				spoil(val)
				if string(other) != h[key] {
					t.Fatalf("Get: %q = %q, not %q", key, other, h[key])
				}
				again, _ := s.Get(key)
				spoil(again)
				if string(other) != h[key] {
					t.Fatalf("Get: %q = %q, not %q", key, other, h[key])
				}
			}
		}
		mustTell(t, "spoilt", s, h)
		mustBe(t, "Compact", s.Compact(), api.OK)
		mustHave(t, "Compact", d, h.whole())
		s = mustOpen(t, "Compact", d, h)
	}
}

// The chapter's example.
func TestExample(t *testing.T) {
	d := disk.New(8)
	mustBe(t, "Format", store.Format(d), api.OK)
	s := mustOpen(t, "Open", d, nil)
	mustBe(t, "Commit", s.Commit(put("a", "1")), api.OK)
	mustOpen(t, "Commit", d, there{"a": "1"})
}
