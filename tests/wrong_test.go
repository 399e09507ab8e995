package tests

import (
	"math"
	"slices"
	"testing"

	"loop.example/pinbits/impl"
)

// nothingOf asks all functions of chapter 1 that take an order number for their one fixed answer.
func nothingOf(t *testing.T, width int, ord int) {
	t.Helper()
	if impl.BitOk(width, ord) {
		t.Errorf("BitOk(%d, %d) = true", width, ord)
	}
	if got := impl.BitBits(width, ord); got != 0 {
		t.Errorf("BitBits(%d, %d) = %x", width, ord, got)
	}
	if got := impl.BitKindOf(width, ord); got != 0 {
		t.Errorf("BitKindOf(%d, %d) = %d", width, ord, got)
	}
	if got := impl.BitUp(width, ord); got != 0 {
		t.Errorf("BitUp(%d, %d) = %d", width, ord, got)
	}
	if got := impl.BitDown(width, ord); got != 0 {
		t.Errorf("BitDown(%d, %d) = %d", width, ord, got)
	}
	if got, ok := impl.BitPartOf(width, ord); ok || got != (impl.BitPart{}) {
		t.Errorf("BitPartOf(%d, %d) = %+v %v", width, ord, got, ok)
	}
}

func TestNoOrderNumber(t *testing.T) {
	for _, s := range shapes {
		for _, ord := range s.noOrds() {
			nothingOf(t, s.width, ord)
		}
	}
}

func TestNoWidth(t *testing.T) {
	for _, width := range noWidths {
		if got := impl.BitTop(width); got != 0 {
			t.Errorf("BitTop(%d) = %d", width, got)
		}
		for _, ord := range edgeInts {
			nothingOf(t, width, ord)
			if got, ok := impl.BitOrd(width, uint64(ord)); got != 0 || ok {
				t.Errorf("BitOrd(%d, %x) = %d %v", width, uint64(ord), got, ok)
			}
		}
		for _, p := range []impl.BitPart{{}, {Below: true}, {Size: 1}, {Size: 3, Power: -1}, {Size: 1, Power: 2001}} {
			if got, ok := impl.BitMake(width, p); got != 0 || ok {
				t.Errorf("BitMake(%d, %+v) = %d %v", width, p, got, ok)
			}
		}
	}
}

func TestNoOrderNumberToCross(t *testing.T) {
	for _, ord := range narrow.noOrds() {
		if got, ok := impl.BitWiden(ord); got != 0 || ok {
			t.Errorf("BitWiden(%d) = %d %v", ord, got, ok)
		}
	}
	for _, ord := range wide.noOrds() {
		if got, ok := impl.BitBelow(ord); got != 0 || ok {
			t.Errorf("BitBelow(%d) = %d %v", ord, got, ok)
		}
		if got, ok := impl.BitAbove(ord); got != 0 || ok {
			t.Errorf("BitAbove(%d) = %d %v", ord, got, ok)
		}
	}
}

// ask calls every function of chapters 1 and 2 and lists what they answer.
func ask(width int, a int, b int) []any {
	ord, ok1 := impl.BitOrd(width, uint64(a))
	part, ok2 := impl.BitPartOf(width, a)
	made, ok3 := impl.BitMake(width, impl.BitPart{Below: a < b, Size: uint64(a), Power: b})
	widened, ok4 := impl.BitWiden(a)
	below, ok5 := impl.BitBelow(a)
	above, ok6 := impl.BitAbove(a)
	return []any{impl.BitTop(width), impl.BitOk(width, a), ord, ok1, impl.BitBits(width, a), impl.BitKindOf(width, a),
		impl.BitUp(width, a), impl.BitDown(width, a), part, ok2, made, ok3, impl.BitGap(a, b), impl.BitMiddle(a, b),
		widened, ok4, below, ok5, above, ok6}
}

// A panic at any argument fails the test; so does an answer that hangs on an earlier call.
func TestEveryArgumentAnswers(t *testing.T) {
	ints := append([]int{-2001, -2000, 2000, 2001, -1100, 1100, math.MinInt32, math.MaxInt32}, edgeInts...)
	for _, width := range append([]int{32, 64}, noWidths...) {
		for _, a := range ints {
			for _, b := range ints {
				first := ask(width, a, b)
				ask(96-width, b, a)
				if again := ask(width, a, b); !slices.Equal(first, again) {
					t.Fatalf("width %d, %d and %d: %v, then %v", width, a, b, first, again)
				}
			}
		}
	}
}
