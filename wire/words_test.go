package wire_test

import (
	"strings"

	"factotum/api"
	"factotum/flt"
	"factotum/mutate"
	"factotum/task"
)

// What follows says the chapter's words in another way, however slowly. Bytes are texts here, so that nothing can be shared.

// num is N of n.
func num(n uint64) string {
	if n < 128 {
		return string([]byte{byte(n)})
	}
	b := ""
	for ; n > 0; n /= 256 {
		b = string([]byte{byte(n % 256)}) + b
	}
	return string([]byte{byte(128 + len(b))}) + b
}

// count is N of how many there are.
func count(n int) string { return num(uint64(n)) }

// text is B of b.
func text(b string) string { return count(len(b)) + b }

// float is F of f.
func float(f float64) string {
	b := ""
	for key, i := flt.Key(f), 0; i < 8; i++ {
		b = string([]byte{byte(key % 256)}) + b
		key /= 256
	}
	return b
}

// flag is Flag of is.
func flag(is bool) string {
	if is {
		return "\x01"
	}
	return "\x00"
}

// mutBytes are a mutation's.
func mutBytes(m api.Mut) string {
	return num(uint64(m.Kind)) + num(m.Id) + num(m.List) + text(m.Text) + float(m.F) + flag(m.Flag)
}

// itemBytes are an item's.
func itemBytes(x api.Item) string { return num(x.Ident) + num(x.Id) + text(mutBytes(x.Mut)) }

// stateBytes are a state's.
func stateBytes(s api.State) string {
	b := []string{count(len(s.Lists))}
	for _, l := range s.Lists {
		b = append(b, num(l.Id), text(l.Name))
	}
	b = append(b, count(len(s.Tasks)))
	for _, t := range s.Tasks {
		b = append(b, num(t.Id), num(t.List), text(t.Title), flag(t.Done), float(t.Rank), float(t.Est), count(len(t.Tags)))
		for _, tag := range t.Tags {
			b = append(b, text(tag))
		}
	}
	return strings.Join(b, "")
}

// pieces are those of a message, one for each thing that the chapter names.
func pieces(m api.Msg) []string {
	b := []string{num(uint64(m.Kind)), num(m.Line), num(m.Boot), num(m.From), num(m.To), count(len(m.Items))}
	for _, x := range m.Items {
		b = append(b, text(itemBytes(x)))
	}
	b = append(b, count(len(m.Lasts)))
	for _, x := range m.Lasts {
		b = append(b, num(x.Ident), num(x.Id))
	}
	return append(b, text(stateBytes(m.State)))
}

// body is what is in a message's frame.
func body(m api.Msg) string { return strings.Join(pieces(m), "") }

// sum is a check sum, bit by bit.
func sum(b string) uint32 {
	s := ^uint32(0)
	for i := range len(b) {
		for bit := 7; bit >= 0; bit-- {
			turn := s>>31 != uint32(b[i])>>bit&1
			s <<= 1
			if turn {
				s ^= 0x04c11db7
			}
		}
	}
	return s
}

// framed is b in a frame; of more than 60,000 bytes it is one that no call makes.
func framed(b string) string {
	inner := string([]byte{byte(len(b) >> 8), byte(len(b))}) + b
	s := sum(inner)
	return "\xa5" + inner + string([]byte{byte(s >> 24), byte(s >> 16), byte(s >> 8), byte(s)})
}

// mayItem: the item is one that a message may have.
func mayItem(x api.Item) bool {
	return x.Ident > 0 && x.Id > 0 && mutate.Check(x.Mut) == api.OK
}

// mayLasts: those are ones that a message may have.
func mayLasts(l []api.Last) bool {
	for i, x := range l {
		if x.Ident < 1 || x.Id < 1 || i > 0 && l[i-1].Ident >= x.Ident {
			return false
		}
	}
	return len(l) < 2001
}

// goes: from and so many more, one by one, come to to, and nowhere round.
func goes(from, to uint64, n int) bool {
	for range n {
		from++
		if from == 0 {
			return false
		}
	}
	return from == to
}

// may: the message is one that may be.
func may(m api.Msg) bool {
	if m.Boot == 0 || len(m.Items) > 8 || !mayLasts(m.Lasts) || task.Right(m.State) != api.OK {
		return false
	}
	for _, x := range m.Items {
		if !mayItem(x) {
			return false
		}
	}
	noLine, noFrom, noTo := m.Line == 0, m.From == 0, m.To == 0
	noItems, noLasts, noState := len(m.Items) == 0, len(m.Lasts) == 0, len(m.State.Lists) == 0 && len(m.State.Tasks) == 0
	switch m.Kind {
	case 1, 2, 5:
		return noFrom && noTo && noItems && noLasts && noState
	case 3:
		return noFrom && noTo && !noItems && noLasts && noState
	case 4:
		return noLine && noFrom && noTo && noItems && !noLasts && noState
	case 6:
		return noTo && noItems && noLasts && noState
	case 7:
		return noLine && noLasts && noState && goes(m.From, m.To, len(m.Items))
	case 8:
		return noLine && noFrom && noItems
	}
	return false
}

// reading takes bytes apart, and isn't strict about it: what it tells has to be held against the bytes again.
type reading struct {
	b   string
	bad bool
}

func (r *reading) take(n uint64) string {
	if n > uint64(len(r.b)) {
		r.b, r.bad = "", true
		return ""
	}
	b := r.b[:n]
	r.b = r.b[n:]
	return b
}

func (r *reading) whole(k uint64) uint64 {
	n := uint64(0)
	for _, c := range []byte(r.take(k)) {
		n = n*256 + uint64(c)
	}
	return n
}

func (r *reading) num() uint64 {
	n := r.whole(1)
	if n < 128 {
		return n
	}
	return r.whole(n - 128)
}

func (r *reading) text() string { return r.take(r.num()) }

func (r *reading) float() float64 {
	f, _ := flt.Of(r.whole(8))
	return f
}

func (r *reading) flag() bool { return r.whole(1) == 1 }

// times does so often what it is given, as long as nothing is bad.
func (r *reading) times(n uint64, do func()) {
	for i := uint64(0); i < n && !r.bad; i++ {
		do()
	}
}

func (r *reading) item() api.Item {
	x := api.Item{Ident: r.num()}
	x.Id = r.num()
	in := &reading{b: r.text()}
	x.Mut.Kind = int(in.num())
	x.Mut.Id = in.num()
	x.Mut.List = in.num()
	x.Mut.Text = in.text()
	x.Mut.F = in.float()
	x.Mut.Flag = in.flag()
	return x
}

func (r *reading) state() api.State {
	var s api.State
	r.times(r.num(), func() {
		l := api.List{Id: r.num()}
		l.Name = r.text()
		s.Lists = append(s.Lists, l)
	})
	r.times(r.num(), func() {
		t := api.Task{Id: r.num()}
		t.List = r.num()
		t.Title = r.text()
		t.Done = r.flag()
		t.Rank = r.float()
		t.Est = r.float()
		r.times(r.num(), func() { t.Tags = append(t.Tags, r.text()) })
		s.Tasks = append(s.Tasks, t)
	})
	return s
}

// itemOf is the item that b is, if it is one.
func itemOf(b string) (api.Item, bool) {
	r := &reading{b: b}
	x := r.item()
	if !mayItem(x) || itemBytes(x) != b {
		return api.Item{}, false
	}
	return x, true
}

// msgOf is the message that b is, if it is one.
func msgOf(b string) (api.Msg, bool) {
	if len(b) < 7 {
		return api.Msg{}, false
	}
	r := &reading{b: b[3 : len(b)-4]}
	m := api.Msg{Kind: int(r.num())}
	m.Line = r.num()
	m.Boot = r.num()
	m.From = r.num()
	m.To = r.num()
	r.times(r.num(), func() {
		in := &reading{b: r.text()}
		m.Items = append(m.Items, in.item())
	})
	r.times(r.num(), func() {
		x := api.Last{Ident: r.num()}
		x.Id = r.num()
		m.Lasts = append(m.Lasts, x)
	})
	in := &reading{b: r.text()}
	m.State = in.state()
	if !may(m) || framed(body(m)) != b {
		return api.Msg{}, false
	}
	return m, true
}
