package tests

import (
	"math"
	"math/big"
	"slices"
	"testing"

	"loop.example/pinbits/impl"
)

func TestBoxConstants(t *testing.T) {
	if impl.BoxMaxVars != 6 || impl.BoxMaxBetween != 1000000 || impl.BoxMaxUnits != 1000000000 {
		t.Error("limits")
	}
	if impl.BoxErrCount != 1 || impl.BoxErrFloat != 2 || impl.BoxErrOrder != 3 {
		t.Error("codes")
	}
}

func TestBoxOk(t *testing.T) {
	for _, s := range shapes {
		for _, b := range s.okBoxes() {
			if !impl.BoxOk(s.width, b) {
				t.Errorf("BoxOk(%d, %d) = false", s.width, b)
			}
		}
		for _, b := range s.noBoxes() {
			if impl.BoxOk(s.width, b) {
				t.Errorf("BoxOk(%d, %d) = true", s.width, b)
			}
		}
	}
}

// Promise 13.
func TestPatternsOfBoxes(t *testing.T) {
	for _, s := range shapes {
		for _, b := range s.okBoxes() {
			var want []uint64
			for _, p := range b.Pairs {
				want = append(want, s.pattern(p.Lo), s.pattern(p.Hi))
			}
			bits := impl.BoxBits(s.width, b)
			if !slices.Equal(bits, want) {
				t.Errorf("BoxBits(%d, %d) = %x", s.width, b, bits)
			}
			if back, code := impl.BoxOf(s.width, bits); code != 0 || !sameBox(back, b) {
				t.Errorf("BoxOf(%d, %x) = %d %d, want %d", s.width, bits, back, code, b)
			}
		}
	}
}

// pattern is what Go's float of an order number has.
func (s shape) pattern(ord int) uint64 {
	if s.width == 32 {
		return uint64(math.Float32bits(float32(s.value(ord))))
	}
	return math.Float64bits(s.value(ord))
}

// readBox is what BoxOf must answer of patterns.
func (s shape) readBox(bits []uint64) (impl.Box, int) {
	if len(bits) < 2 || len(bits) > 12 || len(bits)%2 == 1 {
		return impl.Box{}, 1
	}
	var pairs []pair
	for _, x := range bits {
		if s.width == 32 && x > math.MaxUint32 || math.IsNaN(goValue(s, x)) {
			return impl.Box{}, 2
		}
	}
	for at := 0; at < len(bits); at += 2 {
		pairs = append(pairs, from(s.ordOf(goValue(s, bits[at])), s.ordOf(goValue(s, bits[at+1]))))
	}
	if !s.okBox(box(pairs...)) {
		return impl.Box{}, 3
	}
	return box(pairs...), 0
}

func TestBoxOfAnyPatterns(t *testing.T) {
	for _, s := range shapes {
		c := chance(31)
		some := append(s.noFloats(), 0, s.sign, 1, s.sign+1)
		seen := [4]int{}
		for i := range 40000 {
			bits := make([]uint64, c.next()%16)
			for at := range bits {
				switch c.next() % 20 {
				case 0:
					bits[at] = uint64(s.top) + s.sign*(c.next()%2)
				case 1, 2, 3:
					bits[at] = 7 - uint64(at)%3 + s.sign*(c.next()%2)
				case 4:
					if i%3 == 0 {
						bits[at] = some[c.next()%uint64(len(some))]
					}
				default:
					// Most lists must ascend by pairs, as few would by chance.
					bits[at] = s.sign*uint64(1-at%2) + c.next()%uint64(s.top)
				}
			}
			want, code := s.readBox(bits)
			got, gotCode := impl.BoxOf(s.width, bits)
			if gotCode != code || !sameBox(got, want) {
				t.Errorf("BoxOf(%d, %x) = %d %d, want %d %d", s.width, bits, got, gotCode, want, code)
			}
			seen[code]++
		}
		if slices.Min(seen[:]) < 100 {
			t.Errorf("width %d: codes %d times", s.width, seen)
		}
	}
}

func TestCodesWrittenOut(t *testing.T) {
	for _, s := range shapes {
		infinite, none := uint64(s.top), uint64(s.top)+1
		for _, c := range []struct {
			bits []uint64
			code int
		}{
			{nil, 1},
			{[]uint64{}, 1},
			{[]uint64{0}, 1},
			{[]uint64{none}, 1},
			{[]uint64{2, 1, none}, 1},
			{[]uint64{0, 1, 2}, 1},
			{make([]uint64, 11), 1},
			{make([]uint64, 12), 0},
			{make([]uint64, 13), 1},
			{make([]uint64, 14), 1},
			{make([]uint64, 1000), 1},
			{slices.Repeat([]uint64{none}, 14), 1},
			{[]uint64{0, none}, 2},
			{[]uint64{none, 0}, 2},
			{[]uint64{2, 1, 0, none}, 2},
			{[]uint64{2, 1, none, 0}, 2},
			{[]uint64{none, 0, 2, 1}, 2},
			{[]uint64{infinite, infinite, 0, none | s.sign}, 2},
			{append(make([]uint64, 11), none), 2},
			{[]uint64{2, 1}, 3},
			{[]uint64{0, 1, 2, 1}, 3},
			{[]uint64{infinite, infinite}, 3},
			{[]uint64{infinite | s.sign, infinite | s.sign}, 3},
			{append(make([]uint64, 10), 0, s.sign|1), 3},
			{[]uint64{0, s.sign}, 0},
			{[]uint64{s.sign, 0}, 0},
			{[]uint64{infinite | s.sign, infinite}, 0},
		} {
			b, code := impl.BoxOf(s.width, c.bits)
			if code != c.code || code != 0 && len(b.Pairs) != 0 || code == 0 && len(b.Pairs) != len(c.bits)/2 {
				t.Errorf("BoxOf(%d, %x) = %d %d, want %d", s.width, c.bits, b, code, c.code)
			}
		}
	}
	if b, code := impl.BoxOf(32, []uint64{1 << 32, 1 << 32}); code != 2 || len(b.Pairs) != 0 {
		t.Errorf("wide patterns as narrow ones: %d %d", b, code)
	}
	for _, width := range noWidths {
		for _, bits := range [][]uint64{nil, {0, 1}, {2, 1}, {math.MaxUint64, 0}, {0}} {
			if b, code := impl.BoxOf(width, bits); code != 1 || len(b.Pairs) != 0 {
				t.Errorf("BoxOf(%d, %x) = %d %d", width, bits, b, code)
			}
		}
	}
}

func TestBoxIs(t *testing.T) {
	for _, s := range shapes {
		boxes := append(s.okBoxes(), s.noBoxes()...)
		c := chance(41)
		for i, a := range boxes {
			others := []impl.Box{a, boxes[c.next()%uint64(len(boxes))], boxes[(i+1)%len(boxes)]}
			if s.okBox(a) {
				others = append(others, s.within(a, &c), s.within(a, &c))
			}
			for _, b := range others {
				checkBoxIs(t, a, b)
				checkBoxIs(t, b, a)
			}
		}
	}
	one := box(from(0, 9))
	if !impl.BoxIs(impl.Box{}, box([]pair{}...)) || impl.BoxIs(impl.Box{}, one) || impl.BoxIs(one, impl.Box{}) {
		t.Error("boxes of no pairs")
	}
	if !impl.BoxIs(box(from(9, 0)), box(from(9, 0))) || !impl.BoxIs(box(from(9, -1)), box(from(8, 0))) || impl.BoxIs(box(from(8, 0)), box(from(9, 0))) {
		t.Error("boxes that are not ok")
	}
	if impl.BoxIs(box(from(0, 1), from(0, 1)), one) || impl.BoxIs(one, box(from(0, 9), from(0, 9))) {
		t.Error("boxes of other numbers of pairs")
	}
}

func checkBoxIs(t *testing.T, a impl.Box, b impl.Box) {
	t.Helper()
	want := len(a.Pairs) == len(b.Pairs)
	for at := 0; want && at < len(a.Pairs); at++ {
		want = a.Pairs[at].Lo >= b.Pairs[at].Lo && a.Pairs[at].Hi <= b.Pairs[at].Hi
	}
	if got := impl.BoxIs(a, b); got != want {
		t.Errorf("BoxIs(%d, %d) = %v", a, b, got)
	}
}

func TestBoxMeet(t *testing.T) {
	for _, s := range shapes {
		c := chance(43)
		meets := 0
		for _, whole := range s.okBoxes() {
			a, b := s.within(whole, &c), s.within(whole, &c)
			want, some := impl.Box{}, true
			for at := range a.Pairs {
				p := from(max(a.Pairs[at].Lo, b.Pairs[at].Lo), min(a.Pairs[at].Hi, b.Pairs[at].Hi))
				some = some && p.Lo <= p.Hi
				want.Pairs = append(want.Pairs, p)
			}
			if !some {
				want = impl.Box{}
			} else {
				meets++
			}
			got, ok := impl.BoxMeet(s.width, a, b)
			back, okBack := impl.BoxMeet(s.width, b, a)
			if ok != some || okBack != some || !sameBox(got, want) || !sameBox(back, want) {
				t.Errorf("BoxMeet(%d, %d, %d) = %d %v, want %d %v", s.width, a, b, got, ok, want, some)
			}
		}
		if meets < 100 {
			t.Errorf("width %d: %d meets only", s.width, meets)
		}
		two := box(from(0, 5), from(0, 5))
		for _, b := range []impl.Box{box(from(0, 5)), box(from(0, 5), from(0, 5), from(0, 5)), box(from(0, 5), from(6, 7)), box(from(6, 7), from(0, 5))} {
			got, ok := impl.BoxMeet(s.width, two, b)
			checkNothing(t, "meet", ok, got)
			got, ok = impl.BoxMeet(s.width, b, two)
			checkNothing(t, "meet", ok, got)
		}
	}
}

func TestBoxFine(t *testing.T) {
	betweens := []int{math.MinInt, -1000000, -1, 0, 1, 2, 3, 10, 999999, 1000000, 1000001, math.MaxInt32, 1 << 32, math.MaxInt}
	for _, s := range shapes {
		boxes := s.okBoxes()
		for _, n := range []int{0, 1, 2, 3, 4, 5, 11, 12, 999999, 1000000, 1000001, 1000002, 1000003} {
			for _, lo := range []int{0, -n / 2, s.top - n - 1, -s.top + 1} {
				boxes = append(boxes, box(from(lo, lo+n)), box(from(7, 7), from(lo, lo+n)), box(from(lo, lo+n), from(0, 1)))
			}
		}
		for _, b := range boxes {
			for _, between := range betweens {
				most := uint64(min(max(between, 1), 1000000) + 1)
				want := !slices.ContainsFunc(b.Pairs, func(p pair) bool { return gapOf(p.Lo, p.Hi) > most })
				if got := impl.BoxFine(s.width, b, between); got != want {
					t.Errorf("BoxFine(%d, %d, %d) = %v", s.width, b, between, got)
				}
			}
		}
	}
}

func TestBoxWidest(t *testing.T) {
	for _, s := range shapes {
		for _, b := range s.okBoxes() {
			want := 0
			for at, p := range b.Pairs {
				if gapOf(p.Lo, p.Hi) > gapOf(b.Pairs[want].Lo, b.Pairs[want].Hi) {
					want = at
				}
			}
			if got := impl.BoxWidest(s.width, b); got != want {
				t.Errorf("BoxWidest(%d, %d) = %d, want %d", s.width, b, got, want)
			}
		}
		for _, c := range []struct {
			b    impl.Box
			want int
		}{
			{box(from(5, 5)), 0},
			{box(from(5, 5), from(6, 6)), 0},
			{box(from(5, 6), from(5, 7), from(0, 2)), 1},
			{box(from(0, 1), from(0, 1), from(-s.top, s.top), from(-s.top, s.top-1)), 2},
			{box(from(0, 1), from(0, 1), from(1-s.top, s.top), from(-s.top, s.top-1)), 2},
			{box(from(0, 0), from(0, 0), from(0, 0), from(0, 0), from(0, 0), from(-s.top, 0)), 5},
		} {
			if got := impl.BoxWidest(s.width, c.b); got != c.want {
				t.Errorf("BoxWidest(%d, %d) = %d", s.width, c.b, got)
			}
		}
	}
}

func TestBoxHalved(t *testing.T) {
	for _, s := range shapes {
		c := chance(47)
		answers := map[bool]int{}
		for _, a := range s.okBoxes() {
			for range 5 {
				b := s.within(a, &c)
				want := false
				for at, p := range a.Pairs {
					q := b.Pairs[at]
					want = want || gapOf(p.Lo, p.Hi) > 0 && gapOf(q.Lo, q.Hi) <= gapOf(p.Lo, p.Hi)/2
				}
				if got := impl.BoxHalved(s.width, a, b); got != want {
					t.Errorf("BoxHalved(%d, %d, %d) = %v", s.width, a, b, got)
				}
				answers[want]++
			}
		}
		if answers[true] < 100 || answers[false] < 100 {
			t.Errorf("width %d: %v", s.width, answers)
		}
		for _, c := range []struct {
			a, b impl.Box
			want bool
		}{
			{box(from(0, 0)), box(from(0, 0)), false},
			{box(from(0, 1)), box(from(0, 1)), false},
			{box(from(0, 1)), box(from(1, 1)), true},
			{box(from(0, 5)), box(from(0, 2)), true},
			{box(from(0, 5)), box(from(0, 3)), false},
			{box(from(0, 6)), box(from(3, 6)), true},
			{box(from(0, 6)), box(from(-1, 0)), false},
			{box(from(0, 6), from(0, 6)), box(from(0, 6), from(2, 4)), true},
			{box(from(0, 6), from(0, 6)), box(from(0, 7), from(2, 4)), false},
			{box(from(0, 0), from(0, 6)), box(from(0, 0), from(0, 4)), false},
			{box(from(0, 6), from(0, 6)), box(from(0, 3)), false},
			{box(from(0, 6)), box(from(0, 3), from(0, 3)), false},
			{box(from(-s.top, s.top)), box(from(-s.top, 0)), true},
			{box(from(-s.top, s.top)), box(from(-s.top, 1)), false},
			{box(from(0, s.top)), box(from(s.top, s.top)), false},
			{box(from(0, s.top+1)), box(from(0, 1)), false},
		} {
			if got := impl.BoxHalved(s.width, c.a, c.b); got != c.want {
				t.Errorf("BoxHalved(%d, %d, %d) = %v", s.width, c.a, c.b, got)
			}
		}
	}
}

func TestUnitsAndPath(t *testing.T) {
	for _, s := range shapes {
		below := 0
		for _, b := range s.okBoxes() {
			if got := impl.BoxUnits(s.width, b); got != unitsOf(b) {
				t.Errorf("BoxUnits(%d, %d) = %d, want %d", s.width, b, got, unitsOf(b))
			}
			if got := impl.BoxPath(s.width, b); got != pathOf(b) {
				t.Errorf("BoxPath(%d, %d) = %d, want %d", s.width, b, got, pathOf(b))
			}
			if unitsOf(b) < 1000000000 {
				below++
			}
		}
		if below < 100 {
			t.Errorf("width %d: %d boxes below the limit only", s.width, below)
		}
	}
}

// spread is a box of so many steps in each coordinate.
func spread(steps ...int) impl.Box {
	var b impl.Box
	for _, n := range steps {
		b.Pairs = append(b.Pairs, from(-(n/2), n-n/2))
	}
	return b
}

func TestUnitsWrittenOut(t *testing.T) {
	for _, s := range shapes {
		for _, c := range []struct {
			b    impl.Box
			want int
		}{
			{spread(0), 1},
			{spread(0, 0, 0, 0, 0, 0), 1},
			{spread(1), 3},
			{spread(2), 7},
			{spread(0, 5, 0, 1), 57},
			{spread(1, 1, 1, 1, 1, 1), 729},
			{spread(250000000), 999999999},
			{spread(250000001), 1000000000},
			{spread(0, 250000000, 0), 999999999},
			{spread(1, 1, 1, 28, 83417), 999999999},
			{spread(23, 3, 5, 13145), 1000000000},
			{spread(250000000, 1), 1000000000},
			{spread(1, 250000000, 0), 1000000000},
			{spread(250000000, 250000000, 250000000, 250000000, 250000000, 250000000), 1000000000},
			{spread(1<<30, 1<<30, 0), 1000000000},
			{box(from(-s.top, s.top), from(0, 1), from(0, 1)), 1000000000},
			{box(slices.Repeat([]pair{from(-s.top, s.top)}, 6)...), 1000000000},
		} {
			if got := impl.BoxUnits(s.width, c.b); got != c.want {
				t.Errorf("BoxUnits(%d, %d) = %d, want %d", s.width, c.b, got, c.want)
			}
		}
	}
	// Four times these steps, or the product, is small again if what does not fit 64 bits is dropped.
	for _, steps := range [][]int{{1 << 61}, {1 << 62}, {1<<62 + 1}, {1<<62 + 7}, {1<<61 + 1, 3}, {1 << 30, 1 << 30}, {1 << 31, 1 << 31, 1 << 31}} {
		b := spread(steps...)
		if got := impl.BoxUnits(64, b); !wide.okBox(b) || got != 1000000000 {
			t.Errorf("BoxUnits(64, %d) = %d", b, got)
		}
	}
	b := box(from(-1<<62, 1<<62), from(-1<<62, 1<<62+1), from(-3<<61, 3<<61+2))
	for at := range b.Pairs {
		if one := box(b.Pairs[at]); impl.BoxUnits(64, one) != 1000000000 || impl.BoxUnits(64, b) != 1000000000 {
			t.Errorf("BoxUnits(64, %d) = %d", one, impl.BoxUnits(64, one))
		}
	}
}

// Units around the limit, of two coordinates: the product is asked on both sides of it.
func TestUnitsAroundTheLimit(t *testing.T) {
	limit := big.NewInt(1000000000)
	for _, s := range shapes {
		for n := 1; n < 20000; n += 1 + n/50 {
			near := (1000000000/(4*n-1) + 1) / 4
			for _, m := range []int{near - 1, near, near + 1, near + 2} {
				product := new(big.Int).Mul(big.NewInt(int64(4*n-1)), big.NewInt(int64(4*m-1)))
				want := 1000000000
				if product.Cmp(limit) < 0 {
					want = int(product.Int64())
				}
				if got := impl.BoxUnits(s.width, spread(m, 0, n)); m > 0 && got != want {
					t.Errorf("BoxUnits(%d) of %d and %d steps = %d, want %d", s.width, m, n, got, want)
				}
			}
		}
	}
}

func TestPathWrittenOut(t *testing.T) {
	for _, s := range shapes {
		whole := from(-s.top, s.top)
		line := map[int]int{32: 33, 64: 65}[s.width]
		for _, c := range []struct {
			b    impl.Box
			want int
		}{
			{spread(0), 1},
			{spread(0, 0, 0, 0, 0, 0), 1},
			{spread(1), 2},
			{spread(2), 3},
			{spread(3), 3},
			{spread(4), 4},
			{spread(7, 8), 8},
			{spread(1, 1, 1, 1, 1, 1), 7},
			{spread(1<<30 - 1), 31},
			{spread(1 << 30), 32},
			{box(whole), line},
			{box(slices.Repeat([]pair{whole}, 6)...), 6*(line-1) + 1},
		} {
			if got := impl.BoxPath(s.width, c.b); got != c.want {
				t.Errorf("BoxPath(%d, %d) = %d, want %d", s.width, c.b, got, c.want)
			}
		}
	}
}

// Promise 11.
func TestBoxWithinIsNoMore(t *testing.T) {
	for _, s := range shapes {
		c := chance(53)
		for _, a := range s.okBoxes() {
			for range 5 {
				b := s.within(a, &c)
				if impl.BoxUnits(s.width, b) > impl.BoxUnits(s.width, a) || impl.BoxPath(s.width, b) > impl.BoxPath(s.width, a) {
					t.Errorf("width %d: %d within %d is more", s.width, b, a)
				}
				for _, between := range []int{-1, 0, 1, 2, 3, 5, 100, 1000000, 1000001} {
					if impl.BoxFine(s.width, a, between) && !impl.BoxFine(s.width, b, between) {
						t.Errorf("width %d: %d within %d is not fine at %d", s.width, b, a, between)
					}
				}
			}
		}
	}
}

// Promise 12.
func TestBoxesCross(t *testing.T) {
	for _, b := range wide.okBoxes() {
		less, ok := impl.BoxLess(b)
		var want impl.Box
		for _, p := range b.Pairs {
			want.Pairs = append(want.Pairs, narrowAround(p))
		}
		if !ok || !sameBox(less, want) || !narrow.okBox(less) {
			t.Errorf("BoxLess(%d) = %d %v", b, less, ok)
		}
		if more, ok := impl.BoxMore(less); !ok || !impl.BoxIs(b, more) {
			t.Errorf("BoxLess(%d) = %d, widened %d %v", b, less, more, ok)
		}
	}
	for _, b := range narrow.okBoxes() {
		more, ok := impl.BoxMore(b)
		var want impl.Box
		for _, p := range b.Pairs {
			want.Pairs = append(want.Pairs, from(wide.ordOf(narrow.value(p.Lo)), wide.ordOf(narrow.value(p.Hi))))
		}
		if !ok || !sameBox(more, want) {
			t.Errorf("BoxMore(%d) = %d %v", b, more, ok)
		}
		if back, ok := impl.BoxLess(more); !ok || !sameBox(back, b) {
			t.Errorf("BoxMore(%d) = %d, back %d %v", b, more, back, ok)
		}
	}
	for _, b := range wide.noBoxes() {
		less, ok := impl.BoxLess(b)
		checkNothing(t, "less", ok, less)
	}
	for _, b := range narrow.noBoxes() {
		more, ok := impl.BoxMore(b)
		checkNothing(t, "more", ok, more)
	}
}
