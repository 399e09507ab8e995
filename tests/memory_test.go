package tests

import (
	"reflect"
	"slices"
	"testing"

	"loop.example/pinbits/impl"
)

// guarded is a list between guards: what stands ahead of it and behind its end is seen to stay.
type guarded[T comparable] struct {
	whole, before []T
	list          []T
}

func guard[T comparable](list []T, mark T) guarded[T] {
	whole := slices.Concat([]T{mark, mark}, list, []T{mark, mark, mark, mark, mark, mark, mark})
	return guarded[T]{whole: whole, before: slices.Clone(whole), list: whole[2 : 2+len(list)]}
}

func (g guarded[T]) stays() bool { return slices.Equal(g.whole, g.before) }

// spoil writes over a list, its spare room included.
func spoil[T any](list []T, mark T) {
	list = list[:cap(list)]
	for at := range list {
		list[at] = mark
	}
}

var ruin = from(-77, 77)

// checkApart fails if the answers share memory with an argument or with one another; told must not be spoiled before.
func checkApart(t *testing.T, told string, a guarded[pair], b guarded[pair], answers ...impl.Box) {
	t.Helper()
	if !a.stays() || !b.stays() {
		t.Fatalf("%s: an argument is written to: %d %d", told, a.whole, b.whole)
	}
	for at, answer := range answers {
		var others []impl.Box
		for _, other := range answers {
			others = append(others, impl.Box{Pairs: slices.Clone(other.Pairs)})
		}
		spoil(answer.Pairs, ruin)
		for i, other := range answers {
			if i != at && !sameBox(other, others[i]) {
				t.Errorf("%s: two answers share memory", told)
			}
		}
		if !a.stays() || !b.stays() {
			t.Fatalf("%s: an answer shares memory with an argument", told)
		}
		copy(answer.Pairs, others[at].Pairs)
	}
}

// boxesForMemory is boxes of each number of pairs, ok or not, and boxes within the ok ones.
func boxesForMemory(s shape) [][2]impl.Box {
	c := chance(71)
	var all [][2]impl.Box
	for _, b := range s.okBoxes() {
		all = append(all, [2]impl.Box{b, s.within(b, &c)})
	}
	for _, b := range s.noBoxes()[:40] {
		all = append(all, [2]impl.Box{b, b})
	}
	return all
}

func TestBoxesShareNoMemory(t *testing.T) {
	for _, s := range shapes {
		for _, two := range boxesForMemory(s) {
			ga, gb := guard(two[0].Pairs, ruin), guard(two[1].Pairs, ruin)
			a, b := box(ga.list...), box(gb.list...)
			meet, _ := impl.BoxMeet(s.width, a, b)
			checkApart(t, "BoxMeet", ga, gb, meet)
			same, _ := impl.BoxMeet(s.width, a, a)
			checkApart(t, "BoxMeet", ga, gb, same)
			less, _ := impl.BoxLess(a)
			checkApart(t, "BoxLess", ga, gb, less)
			more, _ := impl.BoxMore(a)
			checkApart(t, "BoxMore", ga, gb, more)
			for at := range len(a.Pairs) {
				first, second, _ := impl.BoxSplit(s.width, a, at)
				checkApart(t, "BoxSplit", ga, gb, first, second)
				p := a.Pairs[at]
				third, fourth, _ := impl.BoxCut(s.width, a, at, from(p.Lo+1, p.Hi-1))
				checkApart(t, "BoxCut", ga, gb, third, fourth)
			}
			impl.BoxOk(s.width, a)
			impl.BoxIs(a, b)
			impl.BoxFine(s.width, a, 3)
			impl.BoxWidest(s.width, a)
			impl.BoxHalved(s.width, a, b)
			impl.BoxUnits(s.width, a)
			impl.BoxPath(s.width, a)
			spoil(impl.BoxBits(s.width, a), 0xdead)
			checkApart(t, "the others", ga, gb)
		}
	}
}

func TestPatternsShareNoMemory(t *testing.T) {
	for _, s := range shapes {
		for _, b := range append(s.okBoxes(), box(from(4, 3))) {
			var bits []uint64
			for _, p := range b.Pairs {
				bits = append(bits, s.pattern(p.Lo), s.pattern(p.Hi))
			}
			for n := range len(bits) + 1 {
				g := guard(bits[:n], 0xdead)
				got, _ := impl.BoxOf(s.width, g.list)
				before := slices.Clone(got.Pairs)
				spoil(g.list, 5)
				if !slices.Equal(got.Pairs, before) {
					t.Fatalf("BoxOf(%d, %x) shares memory", s.width, bits[:n])
				}
				g = guard(bits[:n], 0xdead)
				got, _ = impl.BoxOf(s.width, g.list)
				spoil(got.Pairs, ruin)
				if !g.stays() {
					t.Fatalf("BoxOf(%d, %x) writes into its argument", s.width, bits[:n])
				}
			}
			first, second := impl.BoxBits(s.width, b), impl.BoxBits(s.width, b)
			before := slices.Clone(second)
			spoil(first, 5)
			if !slices.Equal(second, before) {
				t.Fatalf("BoxBits(%d, %d) hands out one memory twice", s.width, b)
			}
		}
	}
}

// askBoxes calls every function of chapters 3 and 4 and lists what they answer.
func askBoxes(width int, a impl.Box, b impl.Box, at int, n int) []any {
	p, q := pair{}, from(at, n)
	if len(a.Pairs) > 0 {
		p = a.Pairs[0]
	}
	meet, ok1 := impl.PairMeet(width, p, q)
	hull, ok2 := impl.PairHull(width, p, q)
	first, second, ok3 := impl.PairSplit(width, q)
	third, fourth, ok4 := impl.PairCut(width, p, q)
	less, ok5 := impl.PairLess(q)
	more, ok6 := impl.PairMore(q)
	read, code := impl.BoxOf(width, []uint64{uint64(at), uint64(n)})
	bothMeet, ok7 := impl.BoxMeet(width, a, b)
	x, y, ok8 := impl.BoxSplit(width, a, at)
	z, w, ok9 := impl.BoxCut(width, a, at, from(n, at))
	lessBox, ok10 := impl.BoxLess(a)
	moreBox, ok11 := impl.BoxMore(a)
	return []any{impl.PairOk(width, q), impl.PairIs(p, q), meet, ok1, hull, ok2, first, second, ok3, third, fourth, ok4, less, ok5, more, ok6,
		impl.BoxOk(width, a), read, code, impl.BoxBits(width, a), impl.BoxIs(a, b), bothMeet, ok7, impl.BoxFine(width, a, n),
		impl.BoxWidest(width, a), impl.BoxHalved(width, a, b), x, y, ok8, z, w, ok9, impl.BoxUnits(width, a), impl.BoxPath(width, a),
		lessBox, ok10, moreBox, ok11}
}

// A panic at any argument fails the test; so does an answer that hangs on an earlier call.
func TestEveryBoxAnswers(t *testing.T) {
	boxes := []impl.Box{{}, box(make([]pair, 7)...), spread(5, 0, 1000), box(slices.Repeat([]pair{from(-wide.top, wide.top)}, 6)...),
		box(slices.Repeat([]pair{from(-narrow.top, narrow.top)}, 6)...), box(from(3, 2)), box(from(-1<<63, 1<<63-1)), box(from(0, 1), from(1<<63-1, -1<<63))}
	for _, width := range append([]int{32, 64}, noWidths...) {
		for i, a := range boxes {
			for _, at := range edgeInts {
				for _, n := range edgeInts {
					b := boxes[uint(i+at+n)%uint(len(boxes))]
					first := askBoxes(width, a, b, at, n)
					askBoxes(96-width, b, a, n, at)
					if again := askBoxes(width, a, b, at, n); !reflect.DeepEqual(first, again) {
						t.Fatalf("width %d, %d %d %d %d: %v, then %v", width, a, b, at, n, first, again)
					}
				}
			}
		}
	}
}

// nothingOfBox asks all functions of chapter 4 that take a box and a width for their one fixed answer.
func nothingOfBox(t *testing.T, width int, b impl.Box) {
	t.Helper()
	ok := box(from(0, 9))
	if impl.BoxOk(width, b) || impl.BoxFine(width, b, 1000000) || impl.BoxHalved(width, b, b) || impl.BoxHalved(width, ok, b) || impl.BoxHalved(width, b, ok) {
		t.Errorf("width %d: %d is taken", width, b)
	}
	if bits := impl.BoxBits(width, b); len(bits) != 0 {
		t.Errorf("BoxBits(%d, %d) = %x", width, b, bits)
	}
	if at := impl.BoxWidest(width, b); at != -1 {
		t.Errorf("BoxWidest(%d, %d) = %d", width, b, at)
	}
	if units, path := impl.BoxUnits(width, b), impl.BoxPath(width, b); units != 0 || path != 0 {
		t.Errorf("width %d: %d has %d units, path %d", width, b, units, path)
	}
	for _, other := range []impl.Box{b, ok} {
		meet, is := impl.BoxMeet(width, b, other)
		checkNothing(t, "meet", is, meet)
		meet, is = impl.BoxMeet(width, other, b)
		checkNothing(t, "meet", is, meet)
	}
	for at := -1; at <= len(b.Pairs); at++ {
		first, second, is := impl.BoxSplit(width, b, at)
		checkNothing(t, "split", is, first, second)
		first, second, is = impl.BoxCut(width, b, at, from(3, 4))
		checkNothing(t, "cut", is, first, second)
	}
}

func TestBoxesThatAreNotOk(t *testing.T) {
	for _, s := range shapes {
		for _, b := range s.noBoxes() {
			nothingOfBox(t, s.width, b)
		}
		// The rest of the box is ok, and the coordinate too: nothing is parted all the same.
		nothingOfBox(t, s.width, box(from(0, 10), from(10, 0)))
		nothingOfBox(t, s.width, box(from(0, 10), from(s.top, s.top)))
		nothingOfBox(t, s.width, box(from(-s.top, -s.top), from(0, 10)))
		nothingOfBox(t, s.width, box(slices.Repeat([]pair{from(0, 10)}, 7)...))
	}
	for _, width := range noWidths {
		for _, b := range []impl.Box{{}, box(from(0, 10)), box(from(0, 0)), box(from(0, 10), from(3, 4)), box(make([]pair, 7)...)} {
			nothingOfBox(t, width, b)
		}
	}
}
