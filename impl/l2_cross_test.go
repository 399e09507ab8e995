package impl

import "testing"

// checkLastThat tries every range of N from least to greatest, and every border within it.
func checkLastThat[N integer](t *testing.T, least int, greatest int) {
	for lo := least; lo <= greatest; lo++ {
		for hi := lo; hi <= greatest; hi += 1 + (hi-lo)/5 {
			for border := lo; border <= hi; border += 1 + (border-lo)/7 {
				got := lastThat(N(lo), N(hi), func(n N) bool { return n <= N(border) })
				if got != N(border) {
					t.Errorf("%T: from %d to %d: %d, want %d", got, lo, hi, got, border)
				}
			}
		}
	}
}

func TestLastThatOfAnySize(t *testing.T) {
	checkLastThat[int8](t, -128, 127)
	checkLastThat[uint8](t, 0, 255)
	checkLastThat[int16](t, -32768, -32700)
	checkLastThat[int](t, -40, 40)
}

func TestLastThatOverWholeRanges(t *testing.T) {
	for _, border := range []int32{-1 << 31, -1<<31 + 1, -1, 0, 1, 1<<31 - 2, 1<<31 - 1} {
		if got := lastThat(-1<<31, 1<<31-1, func(n int32) bool { return n <= border }); got != border {
			t.Errorf("int32: %d, want %d", got, border)
		}
	}
	for _, border := range []uint64{0, 1, 1<<63 - 1, 1 << 63, 1<<64 - 2, 1<<64 - 1} {
		if got := lastThat(0, 1<<64-1, func(n uint64) bool { return n <= border }); got != border {
			t.Errorf("uint64: %d, want %d", got, border)
		}
	}
}
