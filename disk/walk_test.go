package disk_test

import (
	"bytes"
	"testing"

	"factotum/api"
	"factotum/disk"
)

// plain is a disk as the chapter tells it, with no thought of room or time: each read goes through all writes.
type plain struct {
	kept   []string
	places []int
	writes []string
	faults map[int]bool
	armed  bool
	left   int
	dead   bool
}

func newPlain(n int) *plain {
	p := &plain{faults: map[int]bool{}}
	for range n {
		p.kept = append(p.kept, string(filled("")))
	}
	return p
}

func (p *plain) has(at int) bool { return at >= 0 && at < len(p.kept) }

// count is what becomes of a Write or a Flush that isn't refused.
func (p *plain) count() api.Errno {
	if p.armed && p.left == 0 {
		p.dead = true
		return api.ErrDisk
	}
	p.left--
	return api.OK
}

func (p *plain) write(at int, b []byte) api.Errno {
	switch {
	case p.dead:
		return api.ErrDisk
	case !p.has(at):
		return api.ErrRange
	case len(b) > size:
		return api.ErrLong
	}
	e := p.count()
	if e == api.OK {
		p.places = append(p.places, at)
		p.writes = append(p.writes, string(filled(string(b))))
	}
	return e
}

func (p *plain) read(at int) (string, api.Errno) {
	switch {
	case p.dead:
		return "", api.ErrDisk
	case !p.has(at):
		return "", api.ErrRange
	case p.faults[at]:
		return "", api.ErrRead
	}
	s := p.kept[at]
	for i, place := range p.places {
		if place == at {
			s = p.writes[i]
		}
	}
	return s, api.OK
}

func (p *plain) keep(which func(i int) bool) {
	for i, at := range p.places {
		if which(i) {
			p.kept[at] = p.writes[i]
		}
	}
	p.places, p.writes = nil, nil
}

func (p *plain) flush() api.Errno {
	if p.dead {
		return api.ErrDisk
	}
	e := p.count()
	if e == api.OK {
		p.keep(func(int) bool { return true })
	}
	return e
}

func (p *plain) crash(flags []bool) {
	p.keep(func(i int) bool { return i < len(flags) && flags[i] })
	p.dead, p.armed = false, false
}

func (p *plain) clone() *plain {
	c := newPlain(len(p.kept))
	copy(c.kept, p.kept)
	return c
}

// mustBeLike asks that d tells what p does.
func mustBeLike(t *testing.T, d *disk.Disk, p *plain) {
	t.Helper()
	if d.Size() != len(p.kept) || d.Cached() != len(p.writes) || d.Dead() != p.dead {
		t.Fatalf("Size %d, Cached %d, Dead %t, not %d, %d, %t", d.Size(), d.Cached(), d.Dead(), len(p.kept), len(p.writes), p.dead)
	}
	for at := -1; at <= len(p.kept); at++ {
		got, e := d.Read(at)
		want, wantErr := p.read(at)
		if e != wantErr || !bytes.Equal(got, []byte(want)) {
			t.Fatalf("Read of %d: %q, %d, not %q, %d", at, got, e, want, wantErr)
		}
	}
}

// P5.1 to P5.5: all calls, in many orders, held against the plain disk.
func TestManyOrdersOfAllCalls(t *testing.T) {
	seed := uint64(7)
	next := func(n int) int {
		seed = seed*6364136223846793005 + 1442695040888963407
		return int(seed>>33) % n
	}
	for range 1500 {
		n := next(5)
		d, p := disk.New(n), newPlain(n)
		for range 60 {
			switch next(12) {
			default:
				at, b := next(n+2)-1, text(next(1000), next(size+3))
				mustBe(t, "Write", d.Write(at, b), p.write(at, b))
			case 0, 1:
				mustBe(t, "Flush", d.Flush(), p.flush())
			case 2:
				k := next(9) - 1
				d.Arm(k)
				p.armed, p.left = k >= 0, k
			case 3:
				flags := make([]bool, next(12))
				for i := range flags {
					flags[i] = next(3) > 0
				}
				d.Crash(flags...)
				p.crash(flags)
			case 4:
				at, on := next(n+2)-1, next(3) == 0
				d.Fault(at, on)
				if p.has(at) {
					p.faults[at] = on
				}
			case 5:
				if next(4) == 0 {
					d.Wipe()
					p = newPlain(n)
				}
			case 6:
				mustBeLike(t, d.Clone(), p.clone())
				if next(8) == 0 {
					d, p = d.Clone(), p.clone()
				}
			}
			mustBeLike(t, d, p)
		}
	}
}
