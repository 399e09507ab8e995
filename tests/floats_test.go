package tests

import (
	"math"
	"math/big"
	"slices"
	"testing"

	"loop.example/pinbits/impl"
)

// What the tests hold the program against: written out here, or asked of Go's own floats, never of the program.

type shape struct {
	width, fraction, exponents, leastPower, top int
	sign                                        uint64
}

var narrow = shape{width: 32, fraction: 23, exponents: 255, leastPower: -149, top: 2139095040, sign: 1 << 31}
var wide = shape{width: 64, fraction: 52, exponents: 2047, leastPower: -1074, top: 9218868437227405312, sign: 1 << 63}

var shapes = []shape{narrow, wide}

var noWidths = []int{math.MinInt, -64, -32, -1, 0, 1, 8, 16, 31, 33, 63, 65, 96, 128, 1<<32 + 32, 1<<32 + 64, math.MaxInt}

var edgeInts = []int{math.MinInt, math.MinInt + 1, -wide.top - 1, -wide.top, -wide.top + 1, -1 << 52, -1 << 32, -1<<32 + 1,
	math.MinInt32, -narrow.top - 1, -narrow.top, -narrow.top + 1, -1 << 23, -3, -2, -1, 0, 1, 2, 3, 1<<23 - 1, 1 << 23, narrow.top - 1,
	narrow.top, narrow.top + 1, math.MaxInt32, 1<<32 - 1, 1 << 32, 1<<52 - 1, 1 << 52, wide.top - 1, wide.top, wide.top + 1, math.MaxInt - 1, math.MaxInt}

// chance gives the same numbers at each run.
type chance uint64

func (c *chance) next() uint64 {
	*c += 0x9e3779b97f4a7c15
	x := uint64(*c)
	x = (x ^ x>>30) * 0xbf58476d1ce4e5b9
	x = (x ^ x>>27) * 0x94d049bb133111eb
	return x ^ x>>31
}

// value is what Go takes the float of an order number for.
func (s shape) value(ord int) float64 {
	size, sign := uint64(ord), uint64(0)
	if ord < 0 {
		size, sign = uint64(-ord), s.sign
	}
	if s.width == 32 {
		return float64(math.Float32frombits(uint32(size | sign)))
	}
	return math.Float64frombits(size | sign)
}

// ordOf is the order number of a value that the width has.
func (s shape) ordOf(value float64) int {
	bits := math.Float64bits(value)
	if s.width == 32 {
		bits = uint64(math.Float32bits(float32(value)))
	}
	if bits&s.sign != 0 {
		return -int(bits - s.sign)
	}
	return int(bits)
}

// ords is order numbers, ascending: all edges, the borders of all exponents, and some between, both infinite ones at the ends.
func (s shape) ords() []int {
	var sizes []int
	for e := range s.exponents {
		border := (e + 1) << s.fraction
		sizes = append(sizes, border-1, border)
		if border < s.top {
			sizes = append(sizes, border+1)
		}
	}
	for bit := range s.fraction {
		sizes = append(sizes, 1<<bit, 1<<bit+1, s.top-1<<bit)
	}
	c := chance(s.width)
	for range 3000 {
		sizes = append(sizes, int(c.next()%uint64(s.top)))
	}
	all := []int{0}
	for _, size := range sizes {
		all = append(all, size, -size)
	}
	slices.Sort(all)
	return slices.Compact(all)
}

func (s shape) finiteOrds() []int {
	all := s.ords()
	return all[1 : len(all)-1]
}

// noOrds is what is no order number of the width.
func (s shape) noOrds() []int {
	all := []int{math.MinInt, math.MinInt + 1, -s.top - 2, -s.top - 1, s.top + 1, s.top + 2, math.MaxInt - 1, math.MaxInt}
	if s.width == 32 {
		all = append(all, math.MinInt32, math.MaxInt32, 1<<31, 1<<32-1, 1<<32, 1<<32+1, -1<<32, -1<<32-1, wide.top, -wide.top)
	}
	return all
}

// noFloats is patterns that are no float.
func (s shape) noFloats() []uint64 {
	infinite := uint64(s.top)
	var all []uint64
	for bit := range s.fraction {
		all = append(all, infinite+1<<bit, infinite+1<<bit|s.sign)
	}
	all = append(all, s.sign-1, s.sign|(s.sign-1))
	if s.width == 32 {
		for bit := 32; bit < 64; bit++ {
			all = append(all, 1<<bit, 1<<bit|0x3f800000, 1<<bit|0x80000000, 1<<bit|0xbf800000, 1<<bit|0x7f800000)
		}
		all = append(all, math.MaxUint64)
	}
	return all
}

// exact is the value of parts, without loss.
func exact(p impl.BitPart) *big.Float {
	v := new(big.Float).SetPrec(64).SetUint64(p.Size)
	v.SetMantExp(v, p.Power)
	if p.Below {
		v.Neg(v)
	}
	return v
}

// made is what BitMake must answer.
func (s shape) made(p impl.BitPart) (int, bool) {
	if p.Power < -2000 || p.Power > 2000 {
		return 0, false
	}
	if p.Size == 0 {
		return 0, true
	}
	var value float64
	var accuracy big.Accuracy
	if s.width == 32 {
		var v float32
		v, accuracy = exact(p).Float32()
		value = float64(v)
	} else {
		value, accuracy = exact(p).Float64()
	}
	if accuracy != big.Exact || math.IsInf(value, 0) {
		return 0, false
	}
	return s.ordOf(value), true
}

func checkMake(t *testing.T, s shape, p impl.BitPart, want int, wantOk bool) {
	t.Helper()
	if got, ok := impl.BitMake(s.width, p); got != want || ok != wantOk {
		t.Errorf("BitMake(%d, %+v) = %d %v, want %d %v", s.width, p, got, ok, want, wantOk)
	}
}
