package store_test

import (
	"bytes"
	"maps"
	"slices"
	"strings"
	"testing"

	"factotum/api"
	"factotum/disk"
	"factotum/store"
	"factotum/wal"
)

const (
	size = api.Sector
	long = api.MaxRecord
	most = 4096 // Puts of a record
)

// put, gone and puts are short forms.
func put(key, val string) api.Put { return api.Put{Key: key, Val: []byte(val)} }

func gone(key string) api.Put { return api.Put{Key: key, Gone: true} }

func puts(l ...api.Put) []api.Put { return l }

// number is n as a record has it, below 2^24.
func number(n int) string {
	switch {
	case n < 1<<7:
		return string([]byte{byte(n)})
	case n < 1<<8:
		return string([]byte{129, byte(n)})
	case n < 1<<16:
		return string([]byte{130, byte(n >> 8), byte(n)})
	}
	return string([]byte{131, byte(n >> 16), byte(n >> 8), byte(n)})
}

func flag(is bool) string {
	if is {
		return "\x01"
	}
	return "\x00"
}

// recorded is a record as the chapter tells it, with no thought of the codec.
func recorded(all bool, l ...api.Put) string {
	s := flag(all) + number(len(l))
	for _, p := range l {
		val := string(p.Val)
		if p.Gone {
			val = ""
		}
		s += number(len(p.Key)) + p.Key + flag(p.Gone) + number(len(val)) + val
	}
	return s
}

// text is one of n bytes that few others are like.
func text(n, seed int) string {
	b := make([]byte, n)
	for i := range b {
		b[i] = byte(i*7 + seed*31 + i/251)
	}
	return string(b)
}

// short is a key of two bytes, another one for each of 2^16 numbers, rising with them.
func short(n int) string { return string([]byte{byte(n >> 8), byte(n)}) }

// shorts are Puts of n such keys, from this one on.
func shorts(from, n int) []api.Put {
	var l []api.Put
	for i := range n {
		l = append(l, put(short(from+i), ""))
	}
	return l
}

// there is what a store holds.
type there map[string]string

// happened is what is there behind these Puts.
func (h there) happened(l ...api.Put) there {
	after := there{}
	maps.Copy(after, h)
	for _, p := range l {
		delete(after, p.Key)
		if !p.Gone {
			after[p.Key] = string(p.Val)
		}
	}
	return after
}

// whole is the record of all that is there.
func (h there) whole() string {
	var l []api.Put
	for _, key := range slices.Sorted(maps.Keys(h)) {
		l = append(l, put(key, h[key]))
	}
	return recorded(true, l...)
}

// sectors is how many a record takes.
func sectors(record string) int { return (len(record) + 7 + size - 1) / size }

func mustBe(t *testing.T, what string, got, want api.Errno) {
	t.Helper()
	if got != want {
		t.Fatalf("%s: %d, not %d", what, got, want)
	}
}

// mustTell asks that a Store tells this, by Keys and by Get.
func mustTell(t *testing.T, what string, s *store.Store, h there) {
	t.Helper()
	var got, want []string
	for key, val := range s.Keys("") {
		got = append(got, key, string(val))
	}
	for _, key := range slices.Sorted(maps.Keys(h)) {
		want = append(want, key, h[key])
		if val, is := s.Get(key); !is || string(val) != h[key] {
			t.Fatalf("%s: Get of %q: %q, %t, not %q", what, key, val, is, h[key])
		}
	}
	if !slices.Equal(got, want) {
		t.Fatalf("%s: Keys: %q, not %q", what, got, want)
	}
	if val, is := s.Get("never was"); is || len(val) != 0 {
		t.Fatalf("%s: Get of a key that never was: %q, %t", what, val, is)
	}
}

// mustOpen asks that Open tells this.
func mustOpen(t *testing.T, what string, d *disk.Disk, h there) *store.Store {
	t.Helper()
	s, e := store.Open(d)
	if s == nil || e != api.OK {
		t.Fatalf("%s: Open: %t, %d", what, s != nil, e)
	}
	mustTell(t, what+", Open", s, h)
	return s
}

// mustNotOpen asks that Open tells this error, and nothing else.
func mustNotOpen(t *testing.T, what string, d *disk.Disk, want api.Errno) {
	t.Helper()
	s, e := store.Open(d)
	if s != nil || e != want {
		t.Fatalf("%s: Open: %t, %d, not %d", what, s != nil, e, want)
	}
}

// mustHave asks for the records that the disk has.
func mustHave(t *testing.T, what string, d *disk.Disk, records ...string) {
	t.Helper()
	_, l, e := wal.Open(d)
	if e != api.OK || !slices.EqualFunc(l, records, func(b []byte, s string) bool { return string(b) == s }) {
		t.Fatalf("%s: records %q, %d, not %q", what, l, e, records)
	}
}

// used is a disk of n sectors that all hold something old, for good.
func used(t *testing.T, n int) *disk.Disk {
	t.Helper()
	d := disk.New(n)
	for at := range n {
		mustBe(t, "Write", d.Write(at, []byte(strings.Repeat("old ", size/4))), api.OK)
	}
	mustBe(t, "Flush", d.Flush(), api.OK)
	return d
}

// laid is a disk of so many sectors in its ring, with these records.
func laid(t *testing.T, ring int, records ...string) *disk.Disk {
	t.Helper()
	d := used(t, ring+2)
	mustBe(t, "wal.Format", wal.Format(d), api.OK)
	w, _, e := wal.Open(d)
	mustBe(t, "wal.Open", e, api.OK)
	for _, s := range records {
		mustBe(t, "wal.Add", w.Add([]byte(s)), api.OK)
	}
	return d
}

// fresh is a formatted disk of so many sectors in its ring, and its Store.
func fresh(t *testing.T, ring int) (*disk.Disk, *store.Store) {
	t.Helper()
	d := used(t, ring+2)
	mustBe(t, "Format", store.Format(d), api.OK)
	return d, mustOpen(t, "Format", d, nil)
}

// kill makes the disk Dead.
func kill(t *testing.T, d *disk.Disk) {
	t.Helper()
	d.Arm(0)
	d.Flush()
	if !d.Dead() {
		t.Fatal("not Dead")
	}
}

// mustBeLike asks that two disks hold the same.
func mustBeLike(t *testing.T, what string, d, p *disk.Disk) {
	t.Helper()
	if d.Size() != p.Size() || d.Dead() != p.Dead() || d.Cached() != p.Cached() {
		t.Fatalf("%s: %d sectors, Dead %t, %d cached, not %d, %t, %d", what, d.Size(), d.Dead(), d.Cached(), p.Size(), p.Dead(), p.Cached())
	}
	for at := range d.Size() {
		a, e := d.Read(at)
		b, f := p.Read(at)
		if !bytes.Equal(a, b) || e != f {
			t.Fatalf("%s: sector %d: %x, %d, not %x, %d", what, at, a, e, b, f)
		}
	}
}

// mustRefuse asks that a call is refused with this error, and changes nothing: neither the Store nor the disk.
func mustRefuse(t *testing.T, what string, s *store.Store, d *disk.Disk, h there, want api.Errno, call func() api.Errno) {
	t.Helper()
	p, records := d.Clone(), s.Records()
	d.Arm(0)
	mustBe(t, what, call(), want)
	if d.Dead() {
		t.Fatalf("%s: it writes or flushes", what)
	}
	d.Arm(-1)
	mustTell(t, what, s, h)
	mustBeLike(t, what, d, p)
	mustCount(t, what, s, records)
}

// mustCount asks for so many records.
func mustCount(t *testing.T, what string, s *store.Store, want int) {
	t.Helper()
	if got := s.Records(); got != want {
		t.Fatalf("%s: Records: %d, not %d", what, got, want)
	}
}

// choices are all choices of what a crash keeps of n writes, and some that have flags for fewer of them, or for more.
func choices(n int) [][]bool {
	l := [][]bool{nil, slices.Repeat([]bool{true}, n+2)}
	for set := range 1 << n {
		keep := make([]bool, n)
		for i := range keep {
			keep[i] = set>>i&1 == 1
		}
		l = append(l, keep)
	}
	return l
}

// random tells numbers below n, the same ones each time.
func random(seed uint64) func(n int) int {
	return func(n int) int {
		seed = seed*6364136223846793005 + 1442695040888963407
		return int(seed>>33) % n
	}
}
