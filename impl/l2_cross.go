package impl

import "math"

// integer is a whole number of any size.
type integer interface {
	~int | ~int8 | ~int16 | ~int32 | ~int64 |
		~uint | ~uint8 | ~uint16 | ~uint32 | ~uint64
}

// lastThat is the greatest from lo to hi that fits, if lo fits and none fits above one that does not.
func lastThat[N integer](lo N, hi N, fits func(N) bool) N {
	for lo < hi {
		// Half of the sum, up, by bits: the sum, and the difference, may not fit N.
		middle := (lo | hi) - (lo^hi)>>1
		if fits(middle) {
			lo = middle
		} else {
			hi = middle - 1
		}
	}
	return lo
}

// BitGap is how many steps lie between two numbers.
func BitGap(lo int, hi int) uint64 {
	if lo > hi {
		return 0
	}
	return uint64(hi) - uint64(lo)
}

// BitMiddle lies in the middle of two numbers.
func BitMiddle(lo int, hi int) int {
	// Half of the steps always fits an int, and lo with it does not pass hi.
	return lo + int(BitGap(lo, hi)/2)
}

// BitWiden is a narrow float among the wide ones.
func BitWiden(ord int) (int, bool) {
	if !BitOk(BitNarrow, ord) {
		return 0, false
	}
	value := math.Float32frombits(uint32(BitBits(BitNarrow, ord)))
	return BitOrd(BitWide, math.Float64bits(float64(value)))
}

// nearNarrow is a narrow order number that is at most one step away from both neighbours of a wide one.
func nearNarrow(ord int) int {
	greatest, _ := BitWiden(BitTop(BitNarrow) - 1)
	// What the language makes of a value that is too great is not fixed.
	within := max(-greatest, min(ord, greatest))
	value := float32(math.Float64frombits(BitBits(BitWide, within)))
	near, _ := BitOrd(BitNarrow, uint64(math.Float32bits(value)))
	return near
}

// BitBelow is the greatest narrow float that is not above a wide one.
func BitBelow(ord int) (int, bool) {
	if !BitOk(BitWide, ord) {
		return 0, false
	}
	// The conversion rounds, up or down: the neighbour is the one it tells, or stands beside it.
	near := nearNarrow(ord)
	notAbove := func(n int) bool {
		widened, ok := BitWiden(n)
		return ok && widened <= ord
	}
	return lastThat(BitDown(BitNarrow, near), BitUp(BitNarrow, near), notAbove), true
}

// BitAbove is the least narrow float that is not below a wide one.
func BitAbove(ord int) (int, bool) {
	if !BitOk(BitWide, ord) {
		return 0, false
	}
	// Floats below 0 mirror those above it.
	below, ok := BitBelow(-ord)
	return -below, ok
}
