package tests

import (
	"math"
	"math/big"
	"slices"
	"testing"

	"loop.example/pinbits/impl"
)

// gap is how many steps there are, counted without a bound.
func gap(lo int, hi int) *big.Int {
	return new(big.Int).Sub(big.NewInt(int64(hi)), big.NewInt(int64(lo)))
}

func someInts() []int {
	all := slices.Clone(edgeInts)
	c := chance(5)
	for i := range 200 {
		all = append(all, int(c.next())>>(i%64))
	}
	return all
}

func TestGaps(t *testing.T) {
	for _, lo := range someInts() {
		for _, hi := range someInts() {
			want := gap(lo, hi)
			if lo > hi {
				want.SetInt64(0)
			}
			if got := impl.BitGap(lo, hi); !want.IsUint64() || got != want.Uint64() {
				t.Errorf("BitGap(%d, %d) = %d, want %d", lo, hi, got, want)
			}
		}
	}
}

// Promise 5.
func TestHalves(t *testing.T) {
	for _, lo := range someInts() {
		for _, hi := range someInts() {
			middle := impl.BitMiddle(lo, hi)
			if lo > hi {
				if middle != lo {
					t.Errorf("BitMiddle(%d, %d) = %d", lo, hi, middle)
				}
				continue
			}
			first, second := impl.BitGap(lo, middle), impl.BitGap(middle, hi)
			if middle < lo || middle > hi || first+second != impl.BitGap(lo, hi) || second-first > 1 {
				t.Errorf("BitMiddle(%d, %d) = %d: %d and %d steps", lo, hi, middle, first, second)
			}
			want := gap(lo, hi)
			want.Rsh(want, 1).Add(want, big.NewInt(int64(lo)))
			if !want.IsInt64() || int64(middle) != want.Int64() {
				t.Errorf("BitMiddle(%d, %d) = %d, want %d", lo, hi, middle, want)
			}
		}
	}
}

func TestGapsWrittenOut(t *testing.T) {
	for _, c := range []struct {
		lo, hi int
		steps  uint64
		middle int
	}{
		{0, 0, 0, 0},
		{0, 1, 1, 0},
		{-1, 0, 1, -1},
		{-3, 0, 3, -2},
		{-1, 2, 3, 0},
		{7, 6, 0, 7},
		{-wide.top, wide.top, 18437736874454810624, 0},
		{-wide.top, wide.top - 1, 18437736874454810623, -1},
		{math.MinInt, math.MaxInt, math.MaxUint64, -1},
		{math.MinInt, 0, 1 << 63, -1 << 62},
		{math.MaxInt, math.MinInt, 0, math.MaxInt},
		{math.MaxInt - 1, math.MaxInt, 1, math.MaxInt - 1},
		{math.MinInt, math.MinInt, 0, math.MinInt},
	} {
		if got := impl.BitGap(c.lo, c.hi); got != c.steps {
			t.Errorf("BitGap(%d, %d) = %d, want %d", c.lo, c.hi, got, c.steps)
		}
		if got := impl.BitMiddle(c.lo, c.hi); got != c.middle {
			t.Errorf("BitMiddle(%d, %d) = %d, want %d", c.lo, c.hi, got, c.middle)
		}
	}
}

// Promise 4, widening: the value stays, the order stays, and the float comes back.
func TestWiden(t *testing.T) {
	last := -wide.top - 1
	for _, ord := range narrow.ords() {
		got, ok := impl.BitWiden(ord)
		if !ok || wide.value(got) != narrow.value(ord) || got != wide.ordOf(narrow.value(ord)) {
			t.Errorf("BitWiden(%d) = %d %v", ord, got, ok)
		}
		if got <= last {
			t.Errorf("BitWiden(%d) = %d, not above %d", ord, got, last)
		}
		last = got
		checkNeighbours(t, got, ord, ord)
	}
}

func checkNeighbours(t *testing.T, ord int, wantBelow int, wantAbove int) {
	t.Helper()
	if below, ok := impl.BitBelow(ord); below != wantBelow || !ok {
		t.Errorf("BitBelow(%d) = %d %v, want %d", ord, below, ok, wantBelow)
	}
	if above, ok := impl.BitAbove(ord); above != wantAbove || !ok {
		t.Errorf("BitAbove(%d) = %d %v, want %d", ord, above, ok, wantAbove)
	}
}

// betweens is wide order numbers: all edges, some by chance, and around each narrow float and each middle of two.
func betweens() []int {
	all := wide.ords()
	ords := narrow.ords()
	for _, ord := range ords[:len(ords)-1] {
		at, after := wide.ordOf(narrow.value(ord)), wide.ordOf(narrow.value(ord+1))
		middle := at + int(uint64(after-at)/2)
		for _, n := range []int{at - 1, at, at + 1, middle - 1, middle, middle + 1, after - 1, after, after + 1} {
			if -wide.top <= n && n <= wide.top {
				all = append(all, n)
			}
		}
	}
	return all
}

// Promise 4.
func TestNeighbours(t *testing.T) {
	for _, ord := range betweens() {
		value := wide.value(ord)
		below, ok1 := impl.BitBelow(ord)
		above, ok2 := impl.BitAbove(ord)
		if !ok1 || !ok2 || below < -narrow.top || above > narrow.top {
			t.Fatalf("%d lies between %d %v and %d %v", ord, below, ok1, above, ok2)
		}
		if narrow.value(below) > value || below < narrow.top && narrow.value(below+1) <= value {
			t.Errorf("BitBelow(%d) = %d", ord, below)
		}
		if narrow.value(above) < value || above > -narrow.top && narrow.value(above-1) >= value {
			t.Errorf("BitAbove(%d) = %d", ord, above)
		}
		if above-below > 1 || (above == below) != (narrow.value(below) == value) {
			t.Errorf("%d lies between %d and %d", ord, below, above)
		}
	}
}

func TestNeighboursWrittenOut(t *testing.T) {
	greatest := wide.ordOf(math.MaxFloat32)
	least := wide.ordOf(math.SmallestNonzeroFloat32)
	for _, c := range []struct{ ord, below, above int }{
		{0, 0, 0},
		{1, 0, 1},
		{-1, -1, 0},
		{least - 1, 0, 1},
		{least, 1, 1},
		{least + 1, 1, 2},
		{1 - least, -1, 0},
		{-least - 1, -2, -1},
		{wide.ordOf(0x1p-126) - 1, 8388607, 8388608},
		{wide.ordOf(0x1p-126) + 1, 8388608, 8388609},
		{wide.ordOf(0.1), 1036831948, 1036831949},
		{wide.ordOf(-0.1), -1036831949, -1036831948},
		{greatest, 2139095039, 2139095039},
		{greatest + 1, 2139095039, 2139095040},
		{wide.ordOf(0x1p128), 2139095039, 2139095040},
		{wide.ordOf(0x1p1000), 2139095039, 2139095040},
		{wide.top - 1, 2139095039, 2139095040},
		{wide.top, 2139095040, 2139095040},
		{-greatest, -2139095039, -2139095039},
		{-greatest - 1, -2139095040, -2139095039},
		{wide.ordOf(-0x1p128), -2139095040, -2139095039},
		{1 - wide.top, -2139095040, -2139095039},
		{-wide.top, -2139095040, -2139095040},
	} {
		checkNeighbours(t, c.ord, c.below, c.above)
	}
}

func TestWidenWrittenOut(t *testing.T) {
	for ord, want := range map[int]int{0: 0, 1: 874 << 52, -1: -874 << 52, 8388608: 897 << 52, 1065353216: 1023 << 52,
		-1065353216: -1023 << 52, 2139095039: 1151<<52 - 1<<29, 2139095040: 2047 << 52, -2139095040: -2047 << 52} {
		if got, ok := impl.BitWiden(ord); got != want || !ok {
			t.Errorf("BitWiden(%d) = %d %v, want %d", ord, got, ok, want)
		}
	}
}
