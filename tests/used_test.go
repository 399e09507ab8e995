package tests

import (
	"slices"
	"testing"

	"loop.example/pinbits/impl"
)

// with is the box with another pair in a place.
func with(b impl.Box, at int, p pair) impl.Box {
	pairs := slices.Clone(b.Pairs)
	pairs[at] = p
	return box(pairs...)
}

// Promise 9, and what BoxSplit makes.
func TestBoxSplit(t *testing.T) {
	for _, s := range shapes {
		below := 0
		for _, b := range s.okBoxes() {
			for at, p := range b.Pairs {
				first, second, ok := impl.BoxSplit(s.width, b, at)
				if gapOf(p.Lo, p.Hi) < 2 {
					checkNothing(t, "split", ok, first, second)
					continue
				}
				middle := p.Lo + int(gapOf(p.Lo, p.Hi)/2)
				if !ok || !sameBox(first, with(b, at, from(p.Lo, middle))) || !sameBox(second, with(b, at, from(middle, p.Hi))) {
					t.Errorf("BoxSplit(%d, %d, %d) = %d %d %v", s.width, b, at, first, second, ok)
				}
				below += checkLess(t, s, b, first, second)
			}
		}
		if below < 100 {
			t.Errorf("width %d: %d below the limit only", s.width, below)
		}
	}
}

// Promise 9, and what BoxCut makes.
func TestBoxCut(t *testing.T) {
	for _, s := range shapes {
		c := chance(61)
		below := 0
		for _, b := range s.okBoxes() {
			for at, p := range b.Pairs {
				hole := s.within(box(p), &c).Pairs[0]
				first, second, ok := impl.BoxCut(s.width, b, at, hole)
				lower, upper := from(p.Lo, hole.Lo), from(hole.Hi, p.Hi)
				if hole.Lo == hole.Hi || !s.okPair(lower) || !s.okPair(upper) {
					checkNothing(t, "cut", ok, first, second)
					continue
				}
				if gapOf(upper.Lo, upper.Hi) < gapOf(lower.Lo, lower.Hi) {
					lower, upper = upper, lower
				}
				if !ok || !sameBox(first, with(b, at, lower)) || !sameBox(second, with(b, at, upper)) {
					t.Errorf("BoxCut(%d, %d, %d, %d) = %d %d %v", s.width, b, at, hole, first, second, ok)
				}
				below += checkLess(t, s, b, first, second)
			}
		}
		if below < 100 {
			t.Errorf("width %d: %d below the limit only", s.width, below)
		}
	}
}

// checkLess asks promise 9 of a box and its two parts; 1, if its units are below the limit.
func checkLess(t *testing.T, s shape, b impl.Box, first impl.Box, second impl.Box) int {
	t.Helper()
	path := impl.BoxPath(s.width, b)
	if impl.BoxPath(s.width, first)+1 > path || impl.BoxPath(s.width, second) > path || path < 1 {
		t.Errorf("width %d: path of %d, %d %d", s.width, b, first, second)
	}
	units := impl.BoxUnits(s.width, b)
	if units == impl.BoxMaxUnits {
		return 0
	}
	if impl.BoxUnits(s.width, first)+impl.BoxUnits(s.width, second)+1 > units {
		t.Errorf("width %d: units of %d, %d %d", s.width, b, first, second)
	}
	return 1
}

func TestNoSuchCoordinate(t *testing.T) {
	for _, s := range shapes {
		for vars := 1; vars <= 6; vars++ {
			b := box(slices.Repeat([]pair{from(0, 10)}, vars)...)
			for _, at := range append(slices.Clone(edgeInts), -7, 4, 5, 6, 7, vars) {
				first, second, ok := impl.BoxSplit(s.width, b, at)
				third, fourth, okCut := impl.BoxCut(s.width, b, at, from(3, 4))
				if at < 0 || at >= vars {
					checkNothing(t, "split", ok, first, second)
					checkNothing(t, "cut", okCut, third, fourth)
				} else if !ok || !okCut {
					t.Errorf("width %d: no coordinate %d of %d", s.width, at, vars)
				}
			}
		}
	}
}

func TestCutsWrittenOut(t *testing.T) {
	for _, s := range shapes {
		b := box(from(0, 10), from(-s.top, s.top), from(3, 3))
		for _, c := range []struct {
			at            int
			hole          pair
			first, second pair
			ok            bool
		}{
			{0, from(2, 3), from(0, 2), from(3, 10), true},
			{0, from(7, 9), from(9, 10), from(0, 7), true},
			{0, from(5, 5), pair{}, pair{}, false},
			{0, from(-1, 5), pair{}, pair{}, false},
			{1, from(-1, 1), from(-s.top, -1), from(1, s.top), true},
			{1, from(-s.top, 1), pair{}, pair{}, false},
			{2, from(3, 3), pair{}, pair{}, false},
			{2, from(2, 4), pair{}, pair{}, false},
		} {
			first, second, ok := impl.BoxCut(s.width, b, c.at, c.hole)
			if !c.ok {
				checkNothing(t, "cut", ok, first, second)
			} else if !ok || !sameBox(first, with(b, c.at, c.first)) || !sameBox(second, with(b, c.at, c.second)) {
				t.Errorf("BoxCut(%d, %d, %d, %d) = %d %d %v", s.width, b, c.at, c.hole, first, second, ok)
			}
		}
	}
}

// worst is the most boxes that can be taken, and that can wait at a time, whatever is done with a box.
type worst struct{ takes, waits int }

// worstOf tries all that promise 10 allows, and cuts; known is by the steps of the coordinates, as nothing else counts.
func worstOf(t *testing.T, width int, b impl.Box, known map[[3]int]worst) worst {
	var key [3]int
	for at, p := range b.Pairs {
		key[at] = p.Hi - p.Lo + 1
	}
	if w, ok := known[key]; ok {
		return w
	}
	w := worst{takes: 1, waits: 1}
	parted := func(first impl.Box, second impl.Box, ok bool) {
		if ok {
			x, y := worstOf(t, width, first, known), worstOf(t, width, second, known)
			w = worst{takes: max(w.takes, 1+x.takes+y.takes), waits: max(w.waits, 1+x.waits, y.waits)}
		}
	}
	for at, p := range b.Pairs {
		if p.Lo < p.Hi {
			x := worstOf(t, width, with(b, at, from(p.Lo+1, p.Hi)), known)
			w = worst{takes: max(w.takes, 1+x.takes), waits: max(w.waits, x.waits)}
		}
		parted(impl.BoxSplit(width, b, at))
		for lo := p.Lo; lo < p.Hi; lo++ {
			parted(impl.BoxCut(width, b, at, from(lo, lo+1)))
		}
	}
	if units, path := impl.BoxUnits(width, b), impl.BoxPath(width, b); w.takes > units || w.waits > path {
		t.Errorf("width %d: %d takes %d boxes of %d, and %d wait of %d", width, b, w.takes, units, w.waits, path)
	}
	known[key] = w
	return w
}

// Promise 10, at its worst.
func TestBoxIsUsedUpAtWorst(t *testing.T) {
	for _, s := range shapes {
		known := map[[3]int]worst{}
		worstOf(t, s.width, spread(40), known)
		worstOf(t, s.width, spread(9, 8), known)
		worstOf(t, s.width, spread(4, 3, 4), known)
	}
}

// Promise 10, by chance: from box to box till none waits, and no real number is lost.
func TestBoxIsUsedUp(t *testing.T) {
	for _, s := range shapes {
		c := chance(67)
		for range 400 {
			walk(t, s, box(s.few(&c, 12)), &c)
			walk(t, s, box(s.few(&c, 5), s.few(&c, 5)), &c)
			walk(t, s, box(s.few(&c, 2), s.few(&c, 1), s.few(&c, 2)), &c)
		}
	}
}

// few is a pair of few steps: anywhere, about nought, or up to an infinite bound.
func (s shape) few(c *chance, most int) pair {
	n := int(c.next() % uint64(most+1))
	switch c.next() % 4 {
	case 0:
		return from(-s.top, -s.top+max(n, 1))
	case 1:
		return from(s.top-max(n, 1), s.top)
	case 2:
		return from(-n/2, n-n/2)
	}
	lo := min(int(c.next()%uint64(s.top)), s.top-100)
	return from(lo, lo+n)
}

// allPoints is every real number of a box, as far as boxes can tell them apart, three coordinates at most.
func (s shape) allPoints(b impl.Box) [][3]point {
	all := [][3]point{{}}
	for at, p := range b.Pairs {
		var longer [][3]point
		for _, x := range all {
			for n := p.Lo; n <= p.Hi; n++ {
				for _, y := range []point{{at: n}, {at: n, between: true}} {
					infinite := !y.between && (n == s.top || n == -s.top)
					if y.in(p) && !infinite {
						x[at] = y
						longer = append(longer, x)
					}
				}
			}
		}
		all = longer
	}
	return all
}

func inBox(x [3]point, b impl.Box) bool {
	for at, p := range b.Pairs {
		if !x[at].in(p) {
			return false
		}
	}
	return true
}

// walk takes the last box that waits, again and again, and counts; what is never forgotten is lost.
func walk(t *testing.T, s shape, b impl.Box, c *chance) {
	left := s.allPoints(b)
	forget := func(gone func([3]point) bool) { left = slices.DeleteFunc(left, gone) }
	waiting := []impl.Box{b}
	taken, most := 0, 1
	forgetful := 1 + c.next()%60
	for len(waiting) > 0 {
		last := waiting[len(waiting)-1]
		waiting = waiting[:len(waiting)-1]
		taken++
		at := int(c.next() % uint64(len(last.Pairs)))
		p := last.Pairs[at]
		first, second, ok := impl.BoxSplit(s.width, last, at)
		lesser := with(last, at, s.lesser(p, c))
		switch {
		case c.next()%forgetful == 0 || !slices.ContainsFunc(last.Pairs, func(p pair) bool { return s.lesser(p, c) != p }):
			forget(func(x [3]point) bool { return inBox(x, last) })
		case ok && c.next()%3 > 0:
			waiting = append(waiting, second, first)
		case !sameBox(lesser, last):
			forget(func(x [3]point) bool { return inBox(x, last) && !inBox(x, lesser) })
			waiting = append(waiting, lesser)
		default:
			// Another coordinate is tried: the box was not taken yet.
			waiting = append(waiting, last)
			taken--
		}
		most = max(most, len(waiting))
	}
	if units, path := impl.BoxUnits(s.width, b), impl.BoxPath(s.width, b); taken > units || most > path {
		t.Errorf("width %d: %d took %d boxes of %d, and %d waited of %d", s.width, b, taken, units, most, path)
	}
	if len(left) > 0 {
		t.Errorf("width %d: %d lost %v", s.width, b, left)
	}
}

// lesser is the pair less a step at one end or at the other; the pair itself, if it would not be ok.
func (s shape) lesser(p pair, c *chance) pair {
	less := []pair{from(p.Lo+1, p.Hi), from(p.Lo, p.Hi-1)}
	if c.next()%2 == 0 {
		slices.Reverse(less)
	}
	for _, q := range less {
		if s.okPair(q) {
			return q
		}
	}
	return p
}
