// Package impl: floats of two widths by their order numbers, pairs and boxes of them.
package impl

import "math/bits"

// Widths.
const (
	BitNarrow = 32
	BitWide   = 64
)

// Kinds of floats.
const (
	BitNone     = 0
	BitZero     = 1
	BitSmall    = 2
	BitCommon   = 3
	BitInfinite = 4
)

// BitMaxPower bounds the powers that BitMake takes.
const BitMaxPower = 2000

// BitPart is a finite float: its sign, and Size times 2 to the power Power.
type BitPart struct {
	Below bool
	Size  uint64
	Power int
}

// format is all that tells one width from the other; the rest follows from it.
type format interface {
	width() int
	exponentBits() int
	fractionBits() int
}

type narrow struct{}

func (narrow) width() int        { return BitNarrow }
func (narrow) exponentBits() int { return 8 }
func (narrow) fractionBits() int { return 23 }

type wide struct{}

func (wide) width() int        { return BitWide }
func (wide) exponentBits() int { return 11 }
func (wide) fractionBits() int { return 52 }

// formats is the table of both. BitKindOf alone looks a width up in it: no other function calls that one, so all others do without start-up.
var formats [2]format

func init() {
	formats = [2]format{narrow{}, wide{}}
}

func formatOf(width int) (format, bool) {
	switch width {
	case BitNarrow:
		return narrow{}, true
	case BitWide:
		return wide{}, true
	}
	return nil, false
}

// greatestExponent is the exponent that only infinite ones, and what is no float, have.
func greatestExponent(f format) int {
	return 1<<f.exponentBits() - 1
}

func topOf(f format) int {
	return greatestExponent(f) << f.fractionBits()
}

func hasOrd(f format, ord int) bool {
	// The least int has no size, so both ends are asked.
	return -topOf(f) <= ord && ord <= topOf(f)
}

func signBit(f format) uint64 {
	return 1 << (f.exponentBits() + f.fractionBits())
}

// leadingBit is what a float of exponent above 0 has beside its fraction.
func leadingBit(f format) int {
	return 1 << f.fractionBits()
}

// leastPower is the Power of the least float above 0.
func leastPower(f format) int {
	return 2 - 1<<(f.exponentBits()-1) - f.fractionBits()
}

func sizeOf(ord int) int {
	if ord < 0 {
		return -ord
	}
	return ord
}

func withSign(below bool, size int) int {
	if below {
		return -size
	}
	return size
}

// BitTop is the order number of the infinite one above 0.
func BitTop(width int) int {
	f, ok := formatOf(width)
	if !ok {
		return 0
	}
	return topOf(f)
}

// BitOk says whether a number is an order number.
func BitOk(width int, ord int) bool {
	f, ok := formatOf(width)
	return ok && hasOrd(f, ord)
}

// BitOrd is the order number of a pattern.
func BitOrd(width int, bits uint64) (int, bool) {
	f, ok := formatOf(width)
	if !ok {
		return 0, false
	}
	// Bits above a narrow pattern stay in its size, which is then too great for a float.
	size := bits &^ signBit(f)
	if size > uint64(topOf(f)) {
		return 0, false
	}
	return withSign(bits&signBit(f) != 0, int(size)), true
}

// BitBits is the pattern of an order number.
func BitBits(width int, ord int) uint64 {
	f, ok := formatOf(width)
	if !ok || !BitOk(width, ord) {
		return 0
	}
	size := uint64(sizeOf(ord))
	if ord < 0 {
		return size | signBit(f)
	}
	return size
}

// BitKindOf tells what kind of float it is.
func BitKindOf(width int, ord int) int {
	for _, f := range formats {
		if f.width() == width && hasOrd(f, ord) {
			return kindOfSize(f, sizeOf(ord))
		}
	}
	return BitNone
}

func kindOfSize(f format, size int) int {
	switch {
	case size == 0:
		return BitZero
	case size < leadingBit(f):
		return BitSmall
	case size < topOf(f):
		return BitCommon
	}
	return BitInfinite
}

// BitUp is the next one above.
func BitUp(width int, ord int) int {
	if !BitOk(width, ord) {
		return 0
	}
	return min(ord+1, BitTop(width))
}

// BitDown is the next one below.
func BitDown(width int, ord int) int {
	if !BitOk(width, ord) {
		return 0
	}
	return max(ord-1, -BitTop(width))
}

// BitPartOf takes a finite float apart.
func BitPartOf(width int, ord int) (BitPart, bool) {
	f, ok := formatOf(width)
	if !ok || !BitOk(width, ord) || sizeOf(ord) == topOf(f) {
		return BitPart{}, false
	}
	size := sizeOf(ord)
	part := BitPart{Below: ord < 0, Size: uint64(size), Power: leastPower(f)}
	if exponent := size >> f.fractionBits(); exponent > 0 {
		fraction := size & (leadingBit(f) - 1)
		part.Size = uint64(leadingBit(f) | fraction)
		part.Power += exponent - 1
	}
	return part, true
}

// BitMake puts one together, if there is such a float.
func BitMake(width int, p BitPart) (int, bool) {
	f, ok := formatOf(width)
	if !ok || p.Power < -BitMaxPower || p.Power > BitMaxPower {
		return 0, false
	}
	if p.Size == 0 {
		return 0, true
	}
	size, ok := sizeMade(f, p.Size, p.Power)
	return withSign(p.Below, size), ok
}

// sizeMade is the size of the pattern of a value above 0, if a finite float has that value.
func sizeMade(f format, size uint64, power int) (int, bool) {
	// An odd size leaves one way only to share the value.
	zeros := bits.TrailingZeros64(size)
	size >>= zeros
	power += zeros
	room := f.fractionBits() + 1 - bits.Len64(size)
	above := power - leastPower(f)
	if room < 0 || above < 0 {
		return 0, false
	}
	shift := min(room, above)
	above -= shift
	// Asked ahead of the sum below, which would not fit an int.
	if above >= greatestExponent(f)-1 {
		return 0, false
	}
	// The leading bit, where there is one, makes the exponent one more than above.
	return above<<f.fractionBits() + int(size<<shift), true
}
