package tests

import (
	"math"
	"math/big"
	"slices"
	"testing"

	"loop.example/pinbits/impl"
)

// What the tests of pairs and boxes hold the program against.

type pair = impl.Pair

func from(lo int, hi int) pair { return pair{Lo: lo, Hi: hi} }

func box(pairs ...pair) impl.Box { return impl.Box{Pairs: pairs} }

// point is a real number, as far as pairs can tell it from others: the float at, or one between it and the next float.
type point struct {
	at      int
	between bool
}

func (x point) in(p pair) bool {
	if x.between {
		return p.Lo <= x.at && x.at < p.Hi
	}
	return p.Lo <= x.at && x.at <= p.Hi
}

// inside is whether it lies above the value of Lo and below that of Hi.
func (x point) inside(gap pair) bool {
	if x.between {
		return gap.Lo <= x.at && x.at < gap.Hi
	}
	return gap.Lo < x.at && x.at < gap.Hi
}

// points is the real numbers at and around the bounds of pairs, and in their middles.
func (s shape) points(pairs ...pair) []point {
	var all []point
	for _, p := range pairs {
		for _, n := range []int{p.Lo, p.Hi, p.Lo/2 + p.Hi/2} {
			for _, at := range []int{n - 2, n - 1, n, n + 1, n + 2} {
				if -s.top < at && at < s.top {
					all = append(all, point{at: at})
				}
				if -s.top <= at && at < s.top {
					all = append(all, point{at: at, between: true})
				}
			}
		}
	}
	return all
}

func (s shape) okPair(p pair) bool {
	return -s.top <= p.Lo && p.Lo < s.top && -s.top < p.Hi && p.Hi <= s.top && p.Lo <= p.Hi
}

func (s shape) okBox(b impl.Box) bool {
	return len(b.Pairs) >= 1 && len(b.Pairs) <= 6 && !slices.ContainsFunc(b.Pairs, func(p pair) bool { return !s.okPair(p) })
}

// pairEnds is bounds for pairs: order numbers, both infinite ones among them, and what is none.
func (s shape) pairEnds() []int {
	return []int{math.MinInt, -s.top - 1, -s.top, 1 - s.top, 2 - s.top, -1 << s.fraction, -4, -1, 0, 1, 2, 3,
		1 << s.fraction, s.top - 2, s.top - 1, s.top, s.top + 1, math.MaxInt}
}

// anyPairs is pairs of all those bounds, ok or not.
func (s shape) anyPairs() []pair {
	var all []pair
	for _, lo := range s.pairEnds() {
		for _, hi := range s.pairEnds() {
			all = append(all, from(lo, hi))
		}
	}
	return all
}

// okPairs is the ok ones of these, and some by chance, of few steps and of many.
func (s shape) okPairs() []pair {
	all := slices.DeleteFunc(s.anyPairs(), func(p pair) bool { return !s.okPair(p) })
	c := chance(s.width)
	for range 100 {
		all = append(all, s.somePair(&c))
	}
	return all
}

// somePair is an ok pair by chance: of a few steps, of some, or of any number of them.
func (s shape) somePair(c *chance) pair {
	lo := int(c.next()%uint64(s.top)) - int(c.next()%uint64(s.top))
	kind := c.next() % 8
	switch {
	case kind < 5:
		lo = min(lo, s.top-8)
		return from(lo, lo+int(c.next()%8))
	case kind < 7:
		lo = min(lo, s.top-1<<30)
		return from(lo, lo+int(c.next()%(1<<(c.next()%30))))
	}
	hi := int(c.next()%uint64(s.top)) - int(c.next()%uint64(s.top))
	return from(min(lo, hi), max(lo, hi))
}

// okBoxes is ok boxes of each number of pairs: of edges, and by chance.
func (s shape) okBoxes() []impl.Box {
	var all []impl.Box
	for _, p := range s.okPairs() {
		all = append(all, box(p))
	}
	whole := from(-s.top, s.top)
	c := chance(17)
	for vars := 1; vars <= 6; vars++ {
		all = append(all, box(slices.Repeat([]pair{whole}, vars)...), box(slices.Repeat([]pair{{}}, vars)...))
		for range 150 {
			var pairs []pair
			for range vars {
				pairs = append(pairs, s.somePair(&c))
			}
			all = append(all, box(pairs...))
		}
	}
	return all
}

// noBoxes is boxes that are not ok: of no pairs, of too many, and with a pair that is not ok in each place.
func (s shape) noBoxes() []impl.Box {
	all := []impl.Box{{}, box([]pair{}...), {Pairs: make([]pair, 0, 3)}, box(make([]pair, 7)...), box(make([]pair, 8)...), box(make([]pair, 1000)...)}
	for _, p := range s.anyPairs() {
		if s.okPair(p) {
			continue
		}
		all = append(all, box(p))
		for at := range 6 {
			pairs := make([]pair, 6)
			pairs[at] = p
			all = append(all, box(pairs...), box(pairs[:at+1]...))
		}
	}
	return all
}

// within is a box inside an ok one, by chance.
func (s shape) within(b impl.Box, c *chance) impl.Box {
	pairs := slices.Clone(b.Pairs)
	for at := range pairs {
		for range c.next() % 4 {
			q := pairs[at]
			q.Lo += int(c.next() % (gapOf(q.Lo, q.Hi) + 1))
			q.Hi -= int(c.next() % (gapOf(q.Lo, q.Hi) + 1))
			if s.okPair(q) {
				pairs[at] = q
			}
		}
	}
	return box(pairs...)
}

func gapOf(lo int, hi int) uint64 { return gap(lo, hi).Uint64() }

// unitsOf is what BoxUnits must answer of an ok box, counted without a bound.
func unitsOf(b impl.Box) int {
	product := big.NewInt(1)
	for _, p := range b.Pairs {
		if n := gap(p.Lo, p.Hi); n.Sign() > 0 {
			n.Lsh(n, 2).Sub(n, big.NewInt(1))
			product.Mul(product, n)
		}
	}
	if product.Cmp(big.NewInt(1000000000)) >= 0 {
		return 1000000000
	}
	return int(product.Int64())
}

// pathOf is what BoxPath must answer of an ok box, halving one by one.
func pathOf(b impl.Box) int {
	path := 1
	for _, p := range b.Pairs {
		for n := gapOf(p.Lo, p.Hi); n > 0; n /= 2 {
			path++
		}
	}
	return path
}

func sameBox(a impl.Box, b impl.Box) bool { return slices.Equal(a.Pairs, b.Pairs) }

// checkNothing fails if there is an answer beside a false.
func checkNothing(t *testing.T, told string, ok bool, boxes ...impl.Box) {
	t.Helper()
	for _, b := range boxes {
		if ok || len(b.Pairs) > 0 {
			t.Errorf("%s: %v %v", told, boxes, ok)
		}
	}
}
