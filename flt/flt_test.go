package flt_test

import (
	"math"
	"slices"
	"testing"

	"factotum/flt"
)

const (
	tiny      = math.SmallestNonzeroFloat64
	normal    = 0x1p-1022
	greatest  = math.MaxFloat64
	firstKey  = 0x000fffffffffffff // of -Inf
	noughtKey = 0x8000000000000000
	lastKey   = 0xfff0000000000000 // of +Inf
)

var (
	inf       = math.Inf(1)
	minusZero = math.Copysign(0, -1)
	belowOne  = math.Nextafter(1, 0)
	aboveOne  = math.Nextafter(1, 2)
	subnormal = math.Float64frombits(0x000fffffffffffff) // the greatest one
)

// rising has ordinary floats and all edges, each less than the next one.
func rising() []float64 {
	above := []float64{tiny, 2 * tiny, subnormal, normal, 1e-300, 0.1, 0.5, belowOne, 1, aboveOne,
		1.5, 2, 3, math.Pi, 1e10, 1 << 53, 1e300, math.Nextafter(greatest, 0), greatest, inf}
	var l []float64
	for i := len(above) - 1; i >= 0; i-- {
		l = append(l, -above[i])
	}
	l = append(l, 0)
	return append(l, above...)
}

// nans has NaNs of both signs, quiet and signalling, with all kinds of bits.
func nans() []float64 {
	var l []float64
	for _, b := range []uint64{
		0x7ff0000000000001, 0x7ff7ffffffffffff, 0x7ff8000000000000, 0x7ff8000000000001, 0x7ff8000000000002, 0x7fffffffffffffff,
		0xfff0000000000001, 0xfff7ffffffffffff, 0xfff8000000000000, 0xfff8000000000001, 0xffffffffffffffff,
	} {
		l = append(l, math.Float64frombits(b))
	}
	return l
}

// sweep goes through all signs and exponents with some mantissas.
func sweep(visit func(f float64)) {
	mantissas := []uint64{0, 1, 2, 0x123456789abcd, 0x7ffffffffffff, 0x8000000000000, 0x8000000000001, 0xffffffffffffe, 0xfffffffffffff}
	for head := range uint64(1 << 12) {
		for _, m := range mantissas {
			visit(math.Float64frombits(head<<52 | m))
		}
	}
}

// same tells whether two floats are so by their bits.
func same(a, b float64) bool { return math.Float64bits(a) == math.Float64bits(b) }

// isNaN tells whether f is the NaN that stands for all.
func isNaN(f float64) bool { return math.Float64bits(f) == 0x7ff8000000000001 }

// walk is the float that lies n places above f.
func walk(f float64, n int) float64 {
	for range n {
		f = math.Nextafter(f, inf)
	}
	return f
}

// P1.1
func TestClassTellsTheSix(t *testing.T) {
	if flt.NaN != 0 || flt.Below != 1 || flt.Minus != 2 || flt.Nought != 3 || flt.Plus != 4 || flt.Above != 5 {
		t.Error("constants")
	}
	for _, c := range []struct {
		f    float64
		want int
	}{
		{-inf, 1}, {-greatest, 2}, {-1, 2}, {-normal, 2}, {-tiny, 2},
		{minusZero, 3}, {0, 3},
		{tiny, 4}, {normal, 4}, {1, 4}, {greatest, 4}, {inf, 5},
	} {
		if got := flt.Class(c.f); got != c.want {
			t.Errorf("Class(%v) = %d, want %d", c.f, got, c.want)
		}
	}
	for _, f := range nans() {
		if got := flt.Class(f); got != 0 {
			t.Errorf("Class of NaN %x = %d", math.Float64bits(f), got)
		}
	}
}

// P1.1
func TestCanonHasOneNaNAndOneNought(t *testing.T) {
	for _, f := range nans() {
		if got := flt.Canon(f); !isNaN(got) {
			t.Errorf("Canon of NaN %x = %x", math.Float64bits(f), math.Float64bits(got))
		}
	}
	if !same(flt.Canon(0), 0) || !same(flt.Canon(minusZero), 0) {
		t.Error("noughts")
	}
	sweep(func(f float64) {
		if f == f && f != 0 && !same(flt.Canon(f), f) {
			t.Errorf("Canon(%v) = %v", f, flt.Canon(f))
		}
	})
}

// P1.2
func TestKeyOfKnownFloats(t *testing.T) {
	for _, c := range []struct {
		f    float64
		want uint64
	}{
		{-inf, firstKey}, {-greatest, firstKey + 1}, {-2, 0x3fffffffffffffff}, {-1, 0x400fffffffffffff},
		{-normal, 0x7fefffffffffffff}, {-tiny, 0x7ffffffffffffffe},
		{minusZero, noughtKey}, {0, noughtKey},
		{tiny, 0x8000000000000001}, {normal, 0x8010000000000000}, {1, 0xbff0000000000000}, {2, 0xc000000000000000},
		{greatest, lastKey - 1}, {inf, lastKey},
	} {
		if got := flt.Key(c.f); got != c.want {
			t.Errorf("Key(%v) = %x, want %x", c.f, got, c.want)
		}
	}
	for _, f := range nans() {
		if got := flt.Key(f); got != 0 {
			t.Errorf("Key of NaN %x = %x", math.Float64bits(f), got)
		}
	}
}

// P1.2
func TestOfTakesKeysBack(t *testing.T) {
	for _, f := range append(rising(), nans()...) {
		if got, is := flt.Of(flt.Key(f)); !is || !same(got, flt.Canon(f)) {
			t.Errorf("Of(Key(%v)) = %v, %v", f, got, is)
		}
	}
	sweep(func(f float64) {
		if got, is := flt.Of(flt.Key(f)); !is || !same(got, flt.Canon(f)) {
			t.Errorf("Of(Key(%v)) = %v, %v", f, got, is)
		}
	})
	if f, is := flt.Of(0); !is || !isNaN(f) {
		t.Error("key 0", f, is)
	}
	if f, is := flt.Of(noughtKey); !is || !same(f, 0) {
		t.Error("key of the nought", f, is)
	}
}

// P1.2
func TestOfRefusesKeysOfNoFloat(t *testing.T) {
	for _, key := range []uint64{
		1, 2, 0x0007fffffffffffe, 0x0007ffffffffffff, 0x0008000000000000, firstKey - 1,
		noughtKey - 1,
		lastKey + 1, lastKey + 2, 0xfff8000000000000, 0xfff8000000000001, math.MaxUint64 - 1, math.MaxUint64,
	} {
		if f, is := flt.Of(key); is || !same(f, 0) {
			t.Errorf("Of(%x) = %v, %v", key, f, is)
		}
	}
	for key, want := range map[uint64]float64{firstKey: -inf, firstKey + 1: -greatest, noughtKey - 2: -tiny,
		noughtKey + 1: tiny, lastKey - 1: greatest, lastKey: inf} {
		if f, is := flt.Of(key); !is || f != want {
			t.Errorf("Of(%x) = %v, %v, want %v", key, f, is, want)
		}
	}
}

// P1.2, P1.5
func TestLessAndSameTellOneOrder(t *testing.T) {
	l := append([]float64{math.NaN()}, rising()...)
	for i, a := range l {
		for k, b := range l {
			if flt.Less(a, b) != (i < k) || flt.Same(a, b) != (i == k) {
				t.Errorf("%v, %v: Less %v, Same %v", a, b, flt.Less(a, b), flt.Same(a, b))
			}
		}
	}
}

// P1.2, P1.5
func TestNaNsAndNoughtsAreOne(t *testing.T) {
	for _, a := range nans() {
		for _, b := range nans() {
			if flt.Less(a, b) || !flt.Same(a, b) {
				t.Errorf("NaNs %x, %x", math.Float64bits(a), math.Float64bits(b))
			}
		}
		for _, f := range append(rising(), minusZero) {
			if !flt.Less(a, f) || flt.Less(f, a) || flt.Same(a, f) {
				t.Errorf("NaN %x, %v", math.Float64bits(a), f)
			}
		}
	}
	if flt.Less(minusZero, 0) || flt.Less(0, minusZero) || !flt.Same(minusZero, 0) || !flt.Same(0, minusZero) {
		t.Error("noughts")
	}
	if !flt.Less(-tiny, minusZero) || !flt.Less(minusZero, tiny) {
		t.Error("beside the nought")
	}
}

// P1.5
func TestOrderOfNumbersIsTheLanguages(t *testing.T) {
	sweep(func(a float64) {
		for _, b := range []float64{-inf, -greatest, -1.5, -tiny, minusZero, 0, tiny, 1.5, greatest, inf} {
			if a == a && (flt.Less(a, b) != (a < b) || flt.Less(b, a) != (b < a) || flt.Same(a, b) != (a == b)) {
				t.Errorf("%v, %v", a, b)
			}
		}
	})
}

// P1.3
func TestStepsOfKnownFloats(t *testing.T) {
	for _, c := range []struct {
		a, b float64
		want uint64
	}{
		{0, 1, 0x3fefffffffffffff}, {-1, 1, 0x7fdfffffffffffff}, {1, 2, 1<<52 - 1}, {-2, -1, 1<<52 - 1},
		{1, aboveOne, 0}, {belowOne, aboveOne, 1},
		{0, tiny, 0}, {minusZero, tiny, 0}, {-tiny, 0, 0}, {-tiny, minusZero, 0}, {-tiny, tiny, 1},
		{0, normal, 1<<52 - 1}, {greatest, inf, 0}, {-inf, -greatest, 0}, {-inf, inf, 0xffdfffffffffffff}, {-greatest, greatest, 0xffdffffffffffffd},
		{1, 1, 0}, {2, 1, 0}, {inf, -inf, 0}, {0, minusZero, 0}, {minusZero, 0, 0}, {inf, inf, 0}, {-inf, -inf, 0},
	} {
		if got := flt.Steps(c.a, c.b); got != c.want {
			t.Errorf("Steps(%v, %v) = %x, want %x", c.a, c.b, got, c.want)
		}
	}
}

// P1.3: a NaN is less than all, so all below b are in between.
func TestStepsFromNaN(t *testing.T) {
	for _, a := range nans() {
		for _, c := range []struct {
			b    float64
			want uint64
		}{
			{-inf, 0}, {-greatest, 1}, {0, 0x7ff0000000000000}, {minusZero, 0x7ff0000000000000}, {tiny, 0x7ff0000000000001}, {inf, 0xffe0000000000000},
		} {
			if got := flt.Steps(a, c.b); got != c.want {
				t.Errorf("Steps(NaN, %v) = %x, want %x", c.b, got, c.want)
			}
			if got := flt.Steps(c.b, a); got != 0 {
				t.Errorf("Steps(%v, NaN) = %x", c.b, got)
			}
		}
		if got := flt.Steps(a, math.NaN()); got != 0 {
			t.Errorf("Steps(NaN, NaN) = %x", got)
		}
	}
}

// P1.3: against floats gone through one by one, at places where their bits turn.
func TestStepsAndMidOneByOne(t *testing.T) {
	for _, from := range []float64{-inf, walk(-normal, -1), -4 * tiny, -tiny, 0, 1, math.Nextafter(belowOne, 0), -2,
		math.Nextafter(normal, 0), math.Nextafter(math.Nextafter(greatest, 0), 0)} {
		for n := range 12 {
			to := walk(from, n+1)
			if walk(from, n) == inf {
				break
			}
			if got := flt.Steps(from, to); got != uint64(n) {
				t.Errorf("Steps(%v, %v) = %d, want %d", from, to, got, n)
			}
			mid, is := flt.Mid(from, to)
			if n == 0 {
				if is || !same(mid, 0) {
					t.Errorf("Mid(%v, %v) = %v, %v", from, to, mid, is)
				}
				continue
			}
			if want := flt.Canon(walk(from, 1+n/2)); !is || !same(mid, want) {
				t.Errorf("Mid(%v, %v) = %v, %v, want %v", from, to, mid, is, want)
			}
		}
	}
}

// P1.3
func TestMidOfKnownFloats(t *testing.T) {
	for _, c := range []struct{ a, b, want float64 }{
		{0, 1, math.Float64frombits(0x1ff8000000000000)}, {minusZero, 1, math.Float64frombits(0x1ff8000000000000)},
		{-1, 1, 0}, {-inf, inf, 0}, {-greatest, greatest, 0}, {-tiny, tiny, 0},
		{1, 2, 1.5}, {-2, -1, -1.5}, {2, 4, 3}, {belowOne, aboveOne, 1},
		{0, inf, math.Float64frombits(0x3ff8000000000000)}, {-inf, 0, -math.Float64frombits(0x3ff8000000000000)},
	} {
		if got, is := flt.Mid(c.a, c.b); !is || !same(got, c.want) {
			t.Errorf("Mid(%v, %v) = %v, %v, want %v", c.a, c.b, got, is, c.want)
		}
	}
}

// P1.3
func TestMidWithNothingBetween(t *testing.T) {
	pairs := [][2]float64{{1, aboveOne}, {belowOne, 1}, {0, tiny}, {minusZero, tiny}, {-tiny, 0}, {-tiny, minusZero},
		{minusZero, 0}, {0, minusZero}, {greatest, inf}, {-inf, -greatest}, {1, 1}, {2, 1}, {1, 0}, {inf, -inf}, {inf, inf}, {-inf, -inf}}
	for _, nan := range nans() {
		for _, f := range append(rising(), nan) {
			pairs = append(pairs, [2]float64{nan, f}, [2]float64{f, nan})
		}
	}
	for _, p := range pairs {
		if got, is := flt.Mid(p[0], p[1]); is || !same(got, 0) {
			t.Errorf("Mid(%v, %v) = %v, %v", p[0], p[1], got, is)
		}
	}
}

// P1.6, and P1.3's halves
func TestMidLiesBetween(t *testing.T) {
	check := func(a, b float64) {
		mid, is := flt.Mid(a, b)
		if want := flt.Less(a, b) && a == a && flt.Steps(a, b) > 0; is != want {
			t.Errorf("Mid(%v, %v): %v, want %v", a, b, is, want)
		}
		if !is {
			return
		}
		if !flt.Less(a, mid) || !flt.Less(mid, b) || !same(mid, flt.Canon(mid)) {
			t.Errorf("Mid(%v, %v) = %v", a, b, mid)
		}
		n := flt.Steps(a, b)
		if ahead := flt.Steps(a, mid); ahead != n/2 || flt.Steps(mid, b) != n-1-ahead {
			t.Errorf("Mid(%v, %v) = %v has %d of %d ahead", a, b, mid, ahead, n)
		}
	}
	l := append(append(rising(), minusZero), nans()...)
	for _, a := range l {
		for _, b := range l {
			check(a, b)
		}
	}
	sweep(func(f float64) {
		check(f, 1)
		check(-1, f)
		check(-inf, f)
		check(f, inf)
	})
}

// P1.4
func TestSum(t *testing.T) {
	nan := math.NaN()
	for _, c := range []struct {
		l    []float64
		want float64
	}{
		{nil, 0}, {[]float64{}, 0}, {[]float64{1.5}, 1.5}, {[]float64{1, 2, 3.25}, 6.25}, {[]float64{1, nan, 2}, 3},
		{[]float64{nan}, 0}, {nans(), 0}, {[]float64{minusZero}, 0}, {[]float64{minusZero, minusZero}, 0}, {[]float64{1, -1}, 0}, {[]float64{-tiny, tiny}, 0},
		{[]float64{inf, 1}, inf}, {[]float64{1, -inf, nan}, -inf}, {[]float64{greatest, greatest}, inf},
	} {
		if got := flt.Sum(c.l...); !same(got, c.want) {
			t.Errorf("Sum(%v) = %v, want %v", c.l, got, c.want)
		}
	}
}

// P1.4
func TestSumGoesFromLeftToRight(t *testing.T) {
	for _, c := range []struct {
		l    []float64
		want float64
	}{
		{[]float64{1, 1e100, -1e100}, 0}, {[]float64{1e100, -1e100, 1}, 1}, {[]float64{1e100, 1, -1e100}, 0},
		{[]float64{greatest, greatest, -greatest}, inf}, {[]float64{greatest, -greatest, greatest}, greatest},
		{[]float64{1 << 53, 1, 1}, 1 << 53}, {[]float64{1, 1, 1 << 53}, 1<<53 + 2},
	} {
		if got := flt.Sum(c.l...); !same(got, c.want) {
			t.Errorf("Sum(%v) = %v, want %v", c.l, got, c.want)
		}
	}
}

// P1.4: what comes to a NaN on the way stays one.
func TestSumOfBothInfinities(t *testing.T) {
	for _, l := range [][]float64{{inf, -inf}, {-inf, inf}, {-inf, inf, 1}, {1, inf, -inf, inf}, {greatest, greatest, -inf}} {
		if got := flt.Sum(l...); !isNaN(got) {
			t.Errorf("Sum(%v) = %x", l, math.Float64bits(got))
		}
	}
}

// P1.4
func TestLeastAndMost(t *testing.T) {
	nan := math.NaN()
	for _, c := range []struct {
		l           []float64
		least, most float64
	}{
		{[]float64{7}, 7, 7}, {[]float64{3, nan, 1, 2}, 1, 3}, {[]float64{nan, 5, nan}, 5, 5}, {[]float64{1, 3, 2, nan}, 1, 3},
		{[]float64{-1, -3, -2}, -3, -1}, {[]float64{-1, 0, 1}, -1, 1},
		{[]float64{minusZero}, 0, 0}, {[]float64{minusZero, 0}, 0, 0}, {[]float64{0, minusZero}, 0, 0},
		{[]float64{minusZero, 1}, 0, 1}, {[]float64{-1, minusZero}, -1, 0},
		{[]float64{inf}, inf, inf}, {[]float64{-inf, nan}, -inf, -inf}, {[]float64{greatest, inf, -inf, -greatest}, -inf, inf},
		{[]float64{tiny, -tiny, 0}, -tiny, tiny}, {[]float64{-greatest, greatest}, -greatest, greatest},
	} {
		if got := flt.Least(c.l...); !same(got, c.least) {
			t.Errorf("Least(%v) = %v, want %v", c.l, got, c.least)
		}
		if got := flt.Most(c.l...); !same(got, c.most) {
			t.Errorf("Most(%v) = %v, want %v", c.l, got, c.most)
		}
	}
}

// P1.4, P3
func TestLeastAndMostOfNone(t *testing.T) {
	for _, l := range [][]float64{nil, {}, nans(), nans()[6:7]} {
		if got := flt.Least(l...); !isNaN(got) {
			t.Errorf("Least(%v) = %x", l, math.Float64bits(got))
		}
		if got := flt.Most(l...); !isNaN(got) {
			t.Errorf("Most(%v) = %x", l, math.Float64bits(got))
		}
	}
}

// P2: what is given stays, and what lies behind a list's length plays no part.
func TestListsAreLeftAlone(t *testing.T) {
	all := []float64{3, minusZero, math.Float64frombits(0xfff0000000000007), 2, -100, 100, inf}
	bits := func() []uint64 {
		var l []uint64
		for _, f := range all {
			l = append(l, math.Float64bits(f))
		}
		return l
	}
	ahead := bits()
	for range 2 {
		if flt.Sum(all[:4]...) != 5 || flt.Least(all[:4]...) != 0 || flt.Most(all[:4]...) != 3 {
			t.Error(flt.Sum(all[:4]...), flt.Least(all[:4]...), flt.Most(all[:4]...))
		}
	}
	if !slices.Equal(bits(), ahead) {
		t.Error("changed:", all)
	}
}
