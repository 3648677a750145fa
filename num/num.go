// Package num is layer 1: see shared/doc/01-num.md.
package num

import "math/bits"

// The bounds beyond which a call answers 0.
const (
	maxCeil       = 1 << 40
	maxRound      = 1 << 62
	maxRoundSteps = 1 << 60
	maxLow        = 1 << 31
	maxBackSize   = 31
)

// Clip is n within its bounds. Low is asked first, so that it wins where it is above high.
func Clip(n, low, high int) int {
	if n < low {
		return low
	}
	if n > high {
		return high
	}
	return n
}

// Ceil is n by d, rounded up; 0 if either is out of its bounds.
func Ceil(n, d int) int {
	switch {
	case n < 0 || n > maxCeil:
		fallthrough
	case d < 1 || d > maxCeil:
		return 0
	}
	return (n + d - 1) / d
}

// Round is n by d, to the nearest, halves away from 0; 0 if either is out of its bounds.
func Round(n, d int) int {
	switch {
	case amount(n) > maxRound:
		fallthrough
	case d < 1 || d > maxRoundSteps:
		return 0
	}
	// Go's division drops what is left towards 0, so half a d is laid on away from 0 first.
	half := d / 2
	if n < 0 {
		half = -half
	}
	return (n + half) / d
}

// Size is how many binary digits n's amount has.
func Size(n int) int {
	return bits.Len64(amount(n))
}

// Low are the bits that tell n beside its Size; 0 if its amount is out of bounds, whatever its sign.
func Low(n int) int {
	if amount(n) > maxLow {
		return 0
	}
	if n < 0 {
		return n + 1<<Size(n) - 1
	}
	return n
}

// Back is the number of that size whose Low is v; 0 if there is none, or size is out of bounds.
func Back(v, size int) int {
	switch {
	case size < 0 || size > maxBackSize:
		fallthrough // a shift by such a size may panic
	case v < 0 || v >= 1<<size:
		return 0
	}
	// Low keeps the leading one of a number above 0, and takes that of one below 0 away.
	if Size(v) == size {
		return v
	}
	return v - 1<<size + 1
}

// amount is n without its sign. It is unsigned, as -2^63 has an amount that no int holds.
func amount(n int) uint64 {
	if n < 0 {
		return -uint64(n)
	}
	return uint64(n)
}
