package limit

import (
	"math"
	"testing"

	"descant/api"
)

func TestWithin(t *testing.T) {
	for _, l := range []int{0, 1, 2047, api.MaxSample, api.MaxWeight, api.MaxGuess, 4 * api.MaxGuess, api.MaxNumber} {
		for _, x := range []int{-l, -l + 1, -l / 2, 0, l / 2, l - 1, l} {
			if x < -l || x > l {
				continue
			}
			if Limit(l).IsPassed(x) || Limit(l).Hold(x) != x {
				t.Errorf("P8.1, P14.1: %d by %d: %v, %d", x, l, Limit(l).IsPassed(x), Limit(l).Hold(x))
			}
		}
	}
}

func TestBeyond(t *testing.T) {
	for _, l := range []int{0, 1, 2047, api.MaxSample, api.MaxWeight, api.MaxGuess, 4 * api.MaxGuess, api.MaxNumber} {
		for _, x := range []int{l + 1, l + 2, 2*l + 1, 1 << 31, 1 << 32, 1<<32 + l, 1 << 62, math.MaxInt} {
			isHeld(t, l, x, l)
			isHeld(t, l, -x, -l)
		}
		isHeld(t, l, math.MinInt, -l)
		isHeld(t, l, math.MinInt+l, -l)
	}
}

func isHeld(t *testing.T, l int, x int, want int) {
	t.Helper()
	if !Limit(l).IsPassed(x) || Limit(l).Hold(x) != want {
		t.Errorf("P8.2, P14.2: %d by %d: %v, %d; want %d", x, l, Limit(l).IsPassed(x), Limit(l).Hold(x), want)
	}
}
