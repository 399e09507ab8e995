package tests

import (
	"math"
	"math/big"
	"testing"

	"loop.example/pinbits/impl"
)

func TestPairOk(t *testing.T) {
	for _, s := range shapes {
		for _, p := range s.anyPairs() {
			if got := impl.PairOk(s.width, p); got != s.okPair(p) {
				t.Errorf("PairOk(%d, %d) = %v", s.width, p, got)
			}
		}
		for _, c := range []struct {
			p    pair
			want bool
		}{
			{pair{}, true},
			{from(-s.top, s.top), true},
			{from(-s.top, 1-s.top), true},
			{from(s.top-1, s.top), true},
			{from(s.top-1, s.top-1), true},
			{from(s.top, s.top), false},
			{from(-s.top, -s.top), false},
			{from(1, 0), false},
			{from(s.top, -s.top), false},
			{from(-s.top-1, 0), false},
			{from(0, s.top+1), false},
		} {
			if got := impl.PairOk(s.width, c.p); got != c.want {
				t.Errorf("PairOk(%d, %d) = %v", s.width, c.p, got)
			}
		}
	}
}

func TestPairIs(t *testing.T) {
	for _, s := range shapes {
		for _, a := range s.anyPairs() {
			for _, b := range s.anyPairs() {
				want := !(a.Lo < b.Lo) && !(a.Hi > b.Hi)
				if got := impl.PairIs(a, b); got != want {
					t.Errorf("PairIs(%d, %d) = %v", a, b, got)
				}
			}
		}
	}
}

// Promise 8.
func TestMeetAndHull(t *testing.T) {
	for _, s := range shapes {
		pairs := s.okPairs()
		for _, a := range pairs {
			for _, b := range pairs {
				checkMeet(t, s, a, b)
				checkHull(t, s, a, b)
			}
		}
	}
}

func checkMeet(t *testing.T, s shape, a pair, b pair) {
	meet, ok := impl.PairMeet(s.width, a, b)
	if back, okBack := impl.PairMeet(s.width, b, a); back != meet || okBack != ok {
		t.Errorf("PairMeet(%d, %d, %d) = %d %v, the other way %d %v", s.width, a, b, meet, ok, back, okBack)
	}
	some := false
	for _, x := range s.points(a, b) {
		both := x.in(a) && x.in(b)
		some = some || both
		if ok && x.in(meet) != both {
			t.Errorf("PairMeet(%d, %d, %d) = %d, and %v", s.width, a, b, meet, x)
		}
	}
	if ok != some || !ok && meet != (pair{}) || ok && !s.okPair(meet) {
		t.Errorf("PairMeet(%d, %d, %d) = %d %v", s.width, a, b, meet, ok)
	}
}

func checkHull(t *testing.T, s shape, a pair, b pair) {
	hull, ok := impl.PairHull(s.width, a, b)
	if back, okBack := impl.PairHull(s.width, b, a); back != hull || okBack != ok {
		t.Errorf("PairHull(%d, %d, %d) = %d %v, the other way %d %v", s.width, a, b, hull, ok, back, okBack)
	}
	least := (hull.Lo == a.Lo || hull.Lo == b.Lo) && (hull.Hi == a.Hi || hull.Hi == b.Hi)
	if !ok || !least || hull.Lo > a.Lo || hull.Lo > b.Lo || hull.Hi < a.Hi || hull.Hi < b.Hi {
		t.Errorf("PairHull(%d, %d, %d) = %d %v", s.width, a, b, hull, ok)
	}
	for _, x := range s.points(a, b) {
		if (x.in(a) || x.in(b)) && !x.in(hull) {
			t.Errorf("PairHull(%d, %d, %d) = %d, without %v", s.width, a, b, hull, x)
		}
	}
}

func TestMeetAndHullOfWhatIsNotOk(t *testing.T) {
	for _, s := range shapes {
		for _, a := range s.anyPairs() {
			for _, b := range s.anyPairs() {
				if s.okPair(a) && s.okPair(b) {
					continue
				}
				if got, ok := impl.PairMeet(s.width, a, b); ok || got != (pair{}) {
					t.Errorf("PairMeet(%d, %d, %d) = %d %v", s.width, a, b, got, ok)
				}
				if got, ok := impl.PairHull(s.width, a, b); ok || got != (pair{}) {
					t.Errorf("PairHull(%d, %d, %d) = %d %v", s.width, a, b, got, ok)
				}
			}
		}
	}
}

func TestMeetAndHullWrittenOut(t *testing.T) {
	for _, s := range shapes {
		for _, c := range []struct {
			a, b, meet pair
			ok         bool
			hull       pair
		}{
			{from(0, 4), from(2, 9), from(2, 4), true, from(0, 9)},
			{from(0, 4), from(4, 9), from(4, 4), true, from(0, 9)},
			{from(0, 4), from(5, 9), pair{}, false, from(0, 9)},
			{from(-7, 4), from(-3, 1), from(-3, 1), true, from(-7, 4)},
			{from(-s.top, 0), from(0, s.top), from(0, 0), true, from(-s.top, s.top)},
			{from(-s.top, 1-s.top), from(-s.top, s.top), from(-s.top, 1-s.top), true, from(-s.top, s.top)},
			{from(s.top-1, s.top), from(3, s.top), from(s.top-1, s.top), true, from(3, s.top)},
			{from(5, 5), from(5, 5), from(5, 5), true, from(5, 5)},
		} {
			if got, ok := impl.PairMeet(s.width, c.a, c.b); got != c.meet || ok != c.ok {
				t.Errorf("PairMeet(%d, %d, %d) = %d %v", s.width, c.a, c.b, got, ok)
			}
			if got, ok := impl.PairHull(s.width, c.a, c.b); got != c.hull || !ok {
				t.Errorf("PairHull(%d, %d, %d) = %d %v", s.width, c.a, c.b, got, ok)
			}
		}
	}
}

// Promise 6.
func TestPairSplit(t *testing.T) {
	for _, s := range shapes {
		for _, p := range s.okPairs() {
			first, second, ok := impl.PairSplit(s.width, p)
			all := gap(p.Lo, p.Hi)
			if all.Cmp(big.NewInt(2)) < 0 {
				if ok || first != (pair{}) || second != (pair{}) {
					t.Errorf("PairSplit(%d, %d) = %d %d %v", s.width, p, first, second, ok)
				}
				continue
			}
			half := new(big.Int).Rsh(all, 1)
			rest := new(big.Int).Sub(all, half)
			if !ok || first.Lo != p.Lo || first.Hi != second.Lo || second.Hi != p.Hi ||
				gap(first.Lo, first.Hi).Cmp(half) != 0 || gap(second.Lo, second.Hi).Cmp(rest) != 0 || rest.Cmp(all) >= 0 {
				t.Errorf("PairSplit(%d, %d) = %d %d %v", s.width, p, first, second, ok)
			}
			checkKept(t, s, p, pair{}, first, second)
		}
	}
}

// checkKept fails if a real number of a pair, but of the gap, is lost, or if a part is not ok or has others.
func checkKept(t *testing.T, s shape, p pair, gap pair, first pair, second pair) {
	t.Helper()
	if !s.okPair(first) || !s.okPair(second) {
		t.Errorf("width %d: parts of %d: %d %d", s.width, p, first, second)
	}
	for _, x := range s.points(p, first, second, gap) {
		kept := x.in(first) || x.in(second)
		if kept != (x.in(p) && !x.inside(gap)) {
			t.Errorf("width %d: %d without %d is %d %d, and %v", s.width, p, gap, first, second, x)
		}
	}
}

func TestPairSplitWrittenOut(t *testing.T) {
	for _, s := range shapes {
		for _, c := range []struct {
			p, first, second pair
			ok               bool
		}{
			{from(3, 3), pair{}, pair{}, false},
			{from(3, 4), pair{}, pair{}, false},
			{from(-1, 0), pair{}, pair{}, false},
			{from(-s.top, 1-s.top), pair{}, pair{}, false},
			{from(s.top-1, s.top), pair{}, pair{}, false},
			{from(3, 5), from(3, 4), from(4, 5), true},
			{from(-4, -1), from(-4, -3), from(-3, -1), true},
			{from(-1, 2), from(-1, 0), from(0, 2), true},
			{from(-s.top, 2-s.top), from(-s.top, 1-s.top), from(1-s.top, 2-s.top), true},
			{from(s.top-2, s.top), from(s.top-2, s.top-1), from(s.top-1, s.top), true},
			{from(-s.top, s.top), from(-s.top, 0), from(0, s.top), true},
			{from(1-s.top, s.top), from(1-s.top, 0), from(0, s.top), true},
			{from(-s.top, s.top-1), from(-s.top, -1), from(-1, s.top-1), true},
		} {
			if first, second, ok := impl.PairSplit(s.width, c.p); first != c.first || second != c.second || ok != c.ok {
				t.Errorf("PairSplit(%d, %d) = %d %d %v", s.width, c.p, first, second, ok)
			}
		}
	}
}

// Promise 7.
func TestPairCut(t *testing.T) {
	for _, s := range shapes {
		cuts := 0
		for _, p := range s.anyPairs() {
			for _, gap := range s.anyPairs() {
				cuts += checkCut(t, s, p, gap)
			}
		}
		c := chance(23)
		for _, p := range s.okPairs() {
			for range 20 {
				inner := s.within(box(p), &c).Pairs[0]
				cuts += checkCut(t, s, p, inner)
				cuts += checkCut(t, s, p, from(inner.Hi, inner.Lo))
			}
		}
		if cuts < 1000 {
			t.Errorf("width %d: %d cuts only", s.width, cuts)
		}
	}
}

// checkCut is how many cuts there were: 1 or none.
func checkCut(t *testing.T, s shape, p pair, hole pair) int {
	first, second, ok := impl.PairCut(s.width, p, hole)
	lower, upper := from(p.Lo, hole.Lo), from(hole.Hi, p.Hi)
	if !s.okPair(p) || hole.Lo >= hole.Hi || !s.okPair(lower) || !s.okPair(upper) {
		if ok || first != (pair{}) || second != (pair{}) {
			t.Errorf("PairCut(%d, %d, %d) = %d %d %v", s.width, p, hole, first, second, ok)
		}
		return 0
	}
	below, above := gap(lower.Lo, lower.Hi), gap(upper.Lo, upper.Hi)
	if below.Cmp(above) > 0 {
		lower, upper, below = upper, lower, above
	}
	if !ok || first != lower || second != upper || below.Lsh(below, 1).Cmp(gap(p.Lo, p.Hi)) > 0 {
		t.Errorf("PairCut(%d, %d, %d) = %d %d %v", s.width, p, hole, first, second, ok)
	}
	checkKept(t, s, p, hole, first, second)
	return 1
}

func TestPairCutWrittenOut(t *testing.T) {
	for _, s := range shapes {
		for _, c := range []struct {
			p, gap, first, second pair
			ok                    bool
		}{
			{from(0, 10), from(3, 4), from(0, 3), from(4, 10), true},
			{from(0, 10), from(6, 7), from(7, 10), from(0, 6), true},
			{from(0, 10), from(4, 6), from(0, 4), from(6, 10), true},
			{from(-5, 5), from(-5, 5), from(-5, -5), from(5, 5), true},
			{from(0, 10), from(0, 4), from(0, 0), from(4, 10), true},
			{from(0, 10), from(4, 10), from(10, 10), from(0, 4), true},
			{from(3, 4), from(3, 4), from(3, 3), from(4, 4), true},
			{from(3, 3), from(3, 3), pair{}, pair{}, false},
			{from(0, 10), from(4, 4), pair{}, pair{}, false},
			{from(0, 10), from(6, 4), pair{}, pair{}, false},
			{from(0, 10), from(-1, 4), pair{}, pair{}, false},
			{from(0, 10), from(4, 11), pair{}, pair{}, false},
			{from(0, 10), from(12, 15), pair{}, pair{}, false},
			{from(0, 10), from(-15, -12), pair{}, pair{}, false},
			{from(-s.top, s.top), from(-s.top, 0), pair{}, pair{}, false},
			{from(-s.top, s.top), from(0, s.top), pair{}, pair{}, false},
			{from(-s.top, s.top), from(1-s.top, s.top-1), from(-s.top, 1-s.top), from(s.top-1, s.top), true},
			{from(-s.top, s.top), from(-1, 1), from(-s.top, -1), from(1, s.top), true},
			{from(-s.top, s.top), from(-1, 0), from(-s.top, -1), from(0, s.top), true},
			{from(-s.top, s.top), from(0, 1), from(1, s.top), from(-s.top, 0), true},
			{from(-s.top, s.top), from(math.MinInt, math.MaxInt), pair{}, pair{}, false},
			{from(s.top, s.top), from(0, 1), pair{}, pair{}, false},
			{from(-s.top, -s.top), from(0, 1), pair{}, pair{}, false},
			{from(10, 0), from(4, 6), pair{}, pair{}, false},
		} {
			if first, second, ok := impl.PairCut(s.width, c.p, c.gap); first != c.first || second != c.second || ok != c.ok {
				t.Errorf("PairCut(%d, %d, %d) = %d %d %v", s.width, c.p, c.gap, first, second, ok)
			}
		}
	}
}

// narrowAround is the least narrow pair around the values of a wide one, asked of Go's floats by narrow order numbers.
func narrowAround(p pair) pair {
	lo, hi := wide.value(p.Lo), wide.value(p.Hi)
	below, above := from(-narrow.top, narrow.top), from(-narrow.top, narrow.top)
	for below.Lo < below.Hi {
		if middle := below.Lo + (below.Hi-below.Lo+1)/2; narrow.value(middle) <= lo {
			below.Lo = middle
		} else {
			below.Hi = middle - 1
		}
	}
	for above.Lo < above.Hi {
		if middle := above.Lo + (above.Hi-above.Lo)/2; narrow.value(middle) >= hi {
			above.Hi = middle
		} else {
			above.Lo = middle + 1
		}
	}
	return from(below.Lo, above.Lo)
}

// Promise 12, of pairs.
func TestPairLess(t *testing.T) {
	for _, p := range append(wide.anyPairs(), wide.okPairs()...) {
		got, ok := impl.PairLess(p)
		if !wide.okPair(p) {
			if ok || got != (pair{}) {
				t.Errorf("PairLess(%d) = %d %v", p, got, ok)
			}
			continue
		}
		if !ok || !narrow.okPair(got) || got != narrowAround(p) {
			t.Errorf("PairLess(%d) = %d %v, want %d", p, got, ok, narrowAround(p))
		}
		back, ok := impl.PairMore(got)
		if !ok || back.Lo > p.Lo || back.Hi < p.Hi {
			t.Errorf("PairLess(%d) = %d, widened %d %v", p, got, back, ok)
		}
	}
}

// Promise 12, of pairs.
func TestPairMore(t *testing.T) {
	for _, p := range append(narrow.anyPairs(), narrow.okPairs()...) {
		got, ok := impl.PairMore(p)
		if !narrow.okPair(p) {
			if ok || got != (pair{}) {
				t.Errorf("PairMore(%d) = %d %v", p, got, ok)
			}
			continue
		}
		want := from(wide.ordOf(narrow.value(p.Lo)), wide.ordOf(narrow.value(p.Hi)))
		if !ok || got != want {
			t.Errorf("PairMore(%d) = %d %v, want %d", p, got, ok, want)
		}
		if back, ok := impl.PairLess(got); !ok || back != p {
			t.Errorf("PairMore(%d) = %d, back %d %v", p, got, back, ok)
		}
	}
}

func TestPairsOfNoWidth(t *testing.T) {
	for _, width := range noWidths {
		for _, p := range append(wide.anyPairs(), narrow.anyPairs()...) {
			hole := from(p.Lo, p.Hi/2)
			meet, ok1 := impl.PairMeet(width, p, p)
			hull, ok2 := impl.PairHull(width, p, p)
			a, b, ok3 := impl.PairSplit(width, p)
			c, d, ok4 := impl.PairCut(width, p, hole)
			if impl.PairOk(width, p) || ok1 || ok2 || ok3 || ok4 {
				t.Errorf("width %d: %d is taken", width, p)
			}
			for _, got := range []pair{meet, hull, a, b, c, d} {
				if got != (pair{}) {
					t.Errorf("width %d: %d gives %d", width, p, got)
				}
			}
		}
	}
}
