// Package flt is layer 1: floats in one order, with one NaN and one nought. See shared/doc/01-flt.md.
package flt

import "math"

// Classes: P1.1.
const (
	NaN    = 0
	Below  = 1
	Minus  = 2
	Nought = 3
	Plus   = 4
	Above  = 5
)

// Bits of floats: the sign, +Inf, and the NaN that stands for all.
const (
	signBit = 0x8000000000000000
	infBits = 0x7ff0000000000000
	nanBits = 0x7ff8000000000001
)

// Class: P1.1.
func Class(f float64) int {
	switch {
	case math.IsNaN(f):
		return NaN
	case math.IsInf(f, -1):
		return Below
	case math.IsInf(f, 1):
		return Above
	case f < 0:
		return Minus
	case f > 0:
		return Plus
	}
	return Nought
}

// Canon: P1.1.
func Canon(f float64) float64 {
	switch Class(f) {
	case NaN:
		return math.Float64frombits(nanBits)
	case Nought:
		return 0
	}
	return f
}

// Key: P1.2.
func Key(f float64) uint64 {
	if Class(f) == NaN {
		return 0
	}
	b := math.Float64bits(Canon(f))
	if b < signBit {
		return b + signBit
	}
	return math.MaxUint64 - b
}

// Of: P1.2.
func Of(key uint64) (float64, bool) {
	b := math.MaxUint64 - key
	if key >= signBit {
		b = key - signBit
	}
	f := Canon(math.Float64frombits(b))
	// A key that no float has comes to a NaN or to -0, and those have other Keys.
	if Key(f) != key {
		return 0, false
	}
	return f, true
}

// Less: P1.2.
func Less(a, b float64) bool { return Key(a) < Key(b) }

// Same: P1.2.
func Same(a, b float64) bool { return Key(a) == Key(b) }

// place numbers the floats that are Canon one by one in their order, the nought as 0.
// Keys can't be counted so: what would be -0's is left out, and there is a gap behind NaN's.
func place(f float64) int64 {
	if Class(f) == NaN {
		return -infBits - 1
	}
	b := math.Float64bits(f)
	if b < signBit {
		return int64(b)
	}
	return -int64(b - signBit) // of -0 the nought's, too
}

// at is the float at a place from -Inf's to +Inf's.
func at(place int64) float64 {
	if place < 0 {
		return math.Float64frombits(uint64(-place) + signBit)
	}
	return math.Float64frombits(uint64(place))
}

// Mid: P1.3.
func Mid(a, b float64) (float64, bool) {
	n := Steps(a, b)
	// A NaN as b needs no question: nothing is Less than it, so n is 0.
	if Class(a) == NaN || n == 0 {
		return 0, false
	}
	return at(int64(uint64(place(a)) + 1 + n/2)), true
}

// Steps: P1.3.
func Steps(a, b float64) uint64 {
	if !Less(a, b) {
		return 0
	}
	// Unsigned, as the way from -Inf to +Inf is longer than an int64 may be.
	return uint64(place(b)) - uint64(place(a)) - 1
}

// Sum: P1.4.
func Sum(l ...float64) float64 {
	sum := 0.0
	for _, f := range l {
		if Class(f) != NaN {
			sum += f
		}
	}
	return Canon(sum)
}

// Least: P1.4.
func Least(l ...float64) float64 {
	return foremost(Less, l...)
}

// Most: P1.4.
func Most(l ...float64) float64 {
	return foremost(func(a, b float64) bool { return Less(b, a) }, l...)
}

// foremost is the one of l that no other is ahead of, NaNs passed over; a NaN, if there is none.
func foremost(ahead func(a, b float64) bool, l ...float64) float64 {
	best := math.NaN()
	for _, f := range l {
		if Class(f) == NaN {
			continue
		}
		if Class(best) == NaN || ahead(f, best) {
			best = f
		}
	}
	return Canon(best)
}
