package tests

import (
	"math"
	"testing"

	"loop.example/pinbits/impl"
)

func TestConstants(t *testing.T) {
	if impl.BitNarrow != 32 || impl.BitWide != 64 || impl.BitMaxPower != 2000 {
		t.Error("widths or limits")
	}
	if impl.BitNone != 0 || impl.BitZero != 1 || impl.BitSmall != 2 || impl.BitCommon != 3 || impl.BitInfinite != 4 {
		t.Error("kinds")
	}
}

func TestTop(t *testing.T) {
	for _, s := range shapes {
		if got := impl.BitTop(s.width); got != s.top {
			t.Errorf("BitTop(%d) = %d", s.width, got)
		}
		if !math.IsInf(s.value(impl.BitTop(s.width)), 1) {
			t.Errorf("BitTop(%d) is not infinite", s.width)
		}
	}
}

func TestOk(t *testing.T) {
	for _, s := range shapes {
		for _, ord := range s.ords() {
			if !impl.BitOk(s.width, ord) {
				t.Errorf("BitOk(%d, %d) = false", s.width, ord)
			}
		}
		for _, ord := range s.noOrds() {
			if impl.BitOk(s.width, ord) {
				t.Errorf("BitOk(%d, %d) = true", s.width, ord)
			}
		}
	}
}

// Promise 1.
func TestOrderIsOrderOfValues(t *testing.T) {
	for _, s := range shapes {
		ords := s.finiteOrds()
		for i := 1; i < len(ords); i++ {
			less, more := impl.BitBits(s.width, ords[i-1]), impl.BitBits(s.width, ords[i])
			if a, b := goValue(s, less), goValue(s, more); !(a < b) {
				t.Errorf("width %d: %d has %g, %d has %g", s.width, ords[i-1], a, ords[i], b)
			}
			p, ok1 := impl.BitPartOf(s.width, ords[i-1])
			q, ok2 := impl.BitPartOf(s.width, ords[i])
			if !ok1 || !ok2 || exact(p).Cmp(exact(q)) >= 0 {
				t.Errorf("width %d: parts of %d %+v and of %d %+v", s.width, ords[i-1], p, ords[i], q)
			}
		}
	}
}

func goValue(s shape, bits uint64) float64 {
	if s.width == 32 {
		return float64(math.Float32frombits(uint32(bits)))
	}
	return math.Float64frombits(bits)
}

// Promise 1, of patterns in any order.
func TestOrderOfPatterns(t *testing.T) {
	for _, s := range shapes {
		c := chance(7)
		for range 20000 {
			x, y := c.next()%(2*s.sign-1), c.next()%(2*s.sign-1)
			a, okA := impl.BitOrd(s.width, x)
			b, okB := impl.BitOrd(s.width, y)
			v, w := goValue(s, x), goValue(s, y)
			if okA == math.IsNaN(v) || okB == math.IsNaN(w) {
				t.Fatalf("width %d: %x %v or %x %v", s.width, x, okA, y, okB)
			}
			if okA && okB && (a < b) != (v < w) {
				t.Errorf("width %d: %x is %d, %x is %d, values %g %g", s.width, x, a, y, b, v, w)
			}
		}
	}
}

// Promise 2, patterns and order numbers.
func TestPatternsComeBack(t *testing.T) {
	for _, s := range shapes {
		for _, ord := range s.ords() {
			bits := impl.BitBits(s.width, ord)
			if back, ok := impl.BitOrd(s.width, bits); back != ord || !ok {
				t.Errorf("width %d: %d has %x, which has %d %v", s.width, ord, bits, back, ok)
			}
			want := uint64(ord)
			if ord < 0 {
				want = uint64(-ord) + s.sign
			}
			if bits != want {
				t.Errorf("BitBits(%d, %d) = %x, want %x", s.width, ord, bits, want)
			}
		}
	}
}

func TestNoughtBelowIsNought(t *testing.T) {
	for _, s := range shapes {
		for _, bits := range []uint64{0, s.sign} {
			if ord, ok := impl.BitOrd(s.width, bits); ord != 0 || !ok {
				t.Errorf("BitOrd(%d, %x) = %d %v", s.width, bits, ord, ok)
			}
		}
		if bits := impl.BitBits(s.width, 0); bits != 0 {
			t.Errorf("BitBits(%d, 0) = %x", s.width, bits)
		}
	}
}

func TestNoFloats(t *testing.T) {
	for _, s := range shapes {
		for _, bits := range s.noFloats() {
			if ord, ok := impl.BitOrd(s.width, bits); ord != 0 || ok {
				t.Errorf("BitOrd(%d, %x) = %d %v", s.width, bits, ord, ok)
			}
		}
	}
}

// kind asks Go's own floats.
func kind(s shape, ord int) int {
	least := math.Ldexp(1, s.leastPower+s.fraction)
	v := math.Abs(s.value(ord))
	switch {
	case v == 0:
		return 1
	case v < least:
		return 2
	case math.IsInf(v, 0):
		return 4
	}
	return 3
}

func TestKinds(t *testing.T) {
	for _, s := range shapes {
		for _, ord := range s.ords() {
			if got, want := impl.BitKindOf(s.width, ord), kind(s, ord); got != want {
				t.Errorf("BitKindOf(%d, %d) = %d, want %d", s.width, ord, got, want)
			}
		}
		border := 1 << s.fraction
		for ord, want := range map[int]int{0: 1, 1: 2, -1: 2, border - 1: 2, 1 - border: 2, border: 3, -border: 3, s.top - 1: 3, 1 - s.top: 3, s.top: 4, -s.top: 4} {
			if got := impl.BitKindOf(s.width, ord); got != want {
				t.Errorf("BitKindOf(%d, %d) = %d, want %d", s.width, ord, got, want)
			}
		}
	}
}

// next is what Go takes for the next float.
func next(s shape, ord int, toward float64) int {
	if s.width == 32 {
		return s.ordOf(float64(math.Nextafter32(float32(s.value(ord)), float32(toward))))
	}
	return s.ordOf(math.Nextafter(s.value(ord), toward))
}

// Promise 3.
func TestNextOnes(t *testing.T) {
	for _, s := range shapes {
		for _, ord := range s.ords() {
			up, down := impl.BitUp(s.width, ord), impl.BitDown(s.width, ord)
			if want := next(s, ord, math.Inf(1)); up != want {
				t.Errorf("BitUp(%d, %d) = %d, want %d", s.width, ord, up, want)
			}
			if want := next(s, ord, math.Inf(-1)); down != want {
				t.Errorf("BitDown(%d, %d) = %d, want %d", s.width, ord, down, want)
			}
			if ord < s.top && impl.BitDown(s.width, up) != ord {
				t.Errorf("width %d: %d up is %d, and down %d", s.width, ord, up, impl.BitDown(s.width, up))
			}
			if ord > -s.top && impl.BitUp(s.width, down) != ord {
				t.Errorf("width %d: %d down is %d, and up %d", s.width, ord, down, impl.BitUp(s.width, down))
			}
		}
		if impl.BitUp(s.width, s.top) != s.top || impl.BitDown(s.width, -s.top) != -s.top {
			t.Errorf("width %d: a step past an infinite one", s.width)
		}
	}
}

// partOf takes an order number apart as the document says it.
func partOf(s shape, ord int) impl.BitPart {
	size := ord
	if ord < 0 {
		size = -ord
	}
	exponent, fraction := size/(1<<s.fraction), uint64(size%(1<<s.fraction))
	p := impl.BitPart{Below: ord < 0, Size: fraction, Power: s.leastPower}
	if exponent > 0 {
		p.Size += 1 << s.fraction
		p.Power = s.leastPower + exponent - 1
	}
	return p
}

func TestPartsOfFloats(t *testing.T) {
	for _, s := range shapes {
		for _, ord := range s.finiteOrds() {
			p, ok := impl.BitPartOf(s.width, ord)
			if !ok || p != partOf(s, ord) {
				t.Errorf("BitPartOf(%d, %d) = %+v %v, want %+v", s.width, ord, p, ok, partOf(s, ord))
			}
			if v, _ := exact(p).Float64(); v != s.value(ord) {
				t.Errorf("BitPartOf(%d, %d) = %+v, whose value is %g", s.width, ord, p, v)
			}
		}
		for _, ord := range []int{s.top, -s.top} {
			if p, ok := impl.BitPartOf(s.width, ord); ok || p != (impl.BitPart{}) {
				t.Errorf("BitPartOf(%d, %d) = %+v %v", s.width, ord, p, ok)
			}
		}
	}
}

func TestPartsWrittenOut(t *testing.T) {
	for _, c := range []struct {
		width, ord int
		want       impl.BitPart
	}{
		{32, 0, impl.BitPart{Power: -149}},
		{32, -1, impl.BitPart{Below: true, Size: 1, Power: -149}},
		{32, 8388607, impl.BitPart{Size: 8388607, Power: -149}},
		{32, 8388608, impl.BitPart{Size: 8388608, Power: -149}},
		{32, 16777216, impl.BitPart{Size: 8388608, Power: -148}},
		{32, 2139095039, impl.BitPart{Size: 16777215, Power: 104}},
		{64, 0, impl.BitPart{Power: -1074}},
		{64, 4503599627370495, impl.BitPart{Size: 4503599627370495, Power: -1074}},
		{64, -4503599627370496, impl.BitPart{Below: true, Size: 4503599627370496, Power: -1074}},
		{64, 9007199254740992, impl.BitPart{Size: 4503599627370496, Power: -1073}},
		{64, 9218868437227405311, impl.BitPart{Size: 9007199254740991, Power: 971}},
	} {
		if got, ok := impl.BitPartOf(c.width, c.ord); got != c.want || !ok {
			t.Errorf("BitPartOf(%d, %d) = %+v %v, want %+v", c.width, c.ord, got, ok, c.want)
		}
	}
}

// Promise 2, parts, however the value is shared.
func TestPartsComeBack(t *testing.T) {
	for _, s := range shapes {
		for _, ord := range s.finiteOrds() {
			p := partOf(s, ord)
			checkMake(t, s, p, ord, true)
			if ord == 0 {
				continue
			}
			for p.Size%2 == 0 {
				p.Size, p.Power = p.Size/2, p.Power+1
				checkMake(t, s, p, ord, true)
			}
			for p.Size < 1<<63 {
				p.Size, p.Power = p.Size*2, p.Power-1
				checkMake(t, s, p, ord, true)
			}
		}
	}
}

// Promise 2, from the other side: BitMake makes the floats there are, and no others.
func TestMakeAtEveryPower(t *testing.T) {
	var sizes []uint64
	for bit := range 64 {
		one := uint64(1) << bit
		sizes = append(sizes, one-1, one, one+1, 3*one, 0xffffff*one, 0x1ffffff*one, (1<<53-1)*one, (1<<54-1)*one, -one)
	}
	for _, s := range shapes {
		for power := -2003; power <= 2003; power++ {
			for i, size := range sizes {
				p := impl.BitPart{Below: i%2 == 1, Size: size, Power: power}
				want, ok := s.made(p)
				checkMake(t, s, p, want, ok)
			}
		}
	}
}

func TestMakeByChance(t *testing.T) {
	for _, s := range shapes {
		c := chance(11)
		for range 200000 {
			x := c.next()
			p := impl.BitPart{Below: x%2 == 0, Size: c.next() >> (x >> 8 % 64), Power: int(x>>16%3000) - 1500}
			want, ok := s.made(p)
			checkMake(t, s, p, want, ok)
		}
	}
}

func TestMakeEdges(t *testing.T) {
	for _, s := range shapes {
		for _, below := range []bool{false, true} {
			for _, power := range []int{-2000, -1999, -1, 0, 1, 1999, 2000} {
				checkMake(t, s, impl.BitPart{Below: below, Power: power}, 0, true)
			}
			for _, power := range []int{math.MinInt, math.MinInt + 1, -2002, -2001, 2001, 2002, math.MaxInt - 1, math.MaxInt} {
				for _, size := range []uint64{0, 1, 2, 1 << 23, 1 << 52, 1 << 63, math.MaxUint64} {
					checkMake(t, s, impl.BitPart{Below: below, Size: size, Power: power}, 0, false)
				}
			}
		}
		greatest := partOf(s, s.top-1)
		greatest.Size++
		checkMake(t, s, greatest, 0, false)
		checkMake(t, s, impl.BitPart{Size: 1, Power: s.leastPower}, 1, true)
		checkMake(t, s, impl.BitPart{Size: 1, Power: s.leastPower - 1}, 0, false)
		checkMake(t, s, impl.BitPart{Below: true, Size: 2, Power: s.leastPower - 1}, -1, true)
		checkMake(t, s, impl.BitPart{Size: 3, Power: s.leastPower - 1}, 0, false)
		checkMake(t, s, impl.BitPart{Size: 1 << 63, Power: s.leastPower - 63}, 1, true)
		checkMake(t, s, impl.BitPart{Size: 1<<(s.fraction+1) + 1}, 0, false)
	}
}
