package fold

import (
	"math"
	"sync"
	"testing"

	"descant/api"
)

// folded are numbers and what they are folded to, worked out by hand.
var folded = []struct{ x, u int }{
	{0, 0},
	{-1, 1},
	{1, 2},
	{-2, 3},
	{2, 4},
	{-3, 5},
	{3, 6},
	{-63, 125},
	{63, 126},
	{-64, 127},
	{64, 128},
	{-100, 199},
	{100, 200},
	{-32768, 65535},
	{32767, 65534},
	{32768, 65536},
	{-131072, 262143},
	{131072, 262144},
	{-1048576, 2097151},
	{1048576, 2097152},
	// Half of the greatest, and the numbers at and beside the ends.
	{-8388608, 16777215},
	{8388608, 16777216},
	{-16777214, 33554427},
	{16777214, 33554428},
	{-16777215, 33554429},
	{16777215, 33554430},
	{-16777216, 33554431},
	{16777216, 33554432},
}

func TestPutWorkedOutByHand(t *testing.T) {
	for _, c := range folded {
		if got, e := Put(c.x); got != c.u || e != api.OK {
			t.Errorf("P10.1: Put of %d: %d, %d; want %d", c.x, got, e, c.u)
		}
	}
}

func TestGetWorkedOutByHand(t *testing.T) {
	for _, c := range folded {
		if got, e := Get(c.u); got != c.x || e != api.OK {
			t.Errorf("P10.1: Get of %d: %d, %d; want %d", c.u, got, e, c.x)
		}
	}
}

// Of some the lowest bits alone are a number that may be folded; twice others wraps round to one that may be told.
func TestPutRefusesNumbersBeyondTheEnds(t *testing.T) {
	for _, x := range []int{16777217, 16777218, 16777219, 33554431, 33554432, 33554433, 1<<31 - 1, 1 << 31, 1<<32 - 1, 1 << 32,
		1<<32 + 1, 1 << 62, 1<<62 + 5, 1<<63 - 16777217, 1<<63 - 16777216, math.MaxInt - 1, math.MaxInt} {
		isNoPut(t, x)
		isNoPut(t, -x)
	}
	for _, x := range []int{math.MinInt, math.MinInt + 1, math.MinInt + 16777215, math.MinInt + 16777216,
		math.MinInt + 16777217} {
		isNoPut(t, x)
	}
	for far := range 10000 {
		isNoPut(t, 16777217+far)
		isNoPut(t, -16777217-far)
	}
}

// 33554433 would be told of -16777217, 33554434 of 16777217, were they numbers that may be folded.
func TestGetRefusesWhatPutDoesNotTell(t *testing.T) {
	for _, u := range []int{-1, -2, -3, -16777216, -33554431, -33554432, -33554433, -1 << 31, -1 << 32, 1 - 1<<32, -1 << 62,
		33554433, 33554434, 33554435, 33554436, 67108864, 67108865, 1<<31 - 1, 1 << 31, 1<<32 - 1, 1 << 32, 1<<32 + 1, 1 << 62,
		1<<62 + 1, math.MaxInt - 1, math.MaxInt, math.MinInt, math.MinInt + 1, math.MinInt + 33554432} {
		isNoGet(t, u)
	}
	for far := range 10000 {
		isNoGet(t, 33554433+far)
		isNoGet(t, -1-far)
	}
}

func TestEveryNumberComesBack(t *testing.T) {
	for x := -16777216; x <= 16777216; x++ {
		u, e := Put(x)
		if u != plainPut(x) || e != api.OK {
			t.Fatalf("P10.1: Put of %d: %d, %d; want %d", x, u, e, plainPut(x))
		}
		if back, f := Get(u); back != x || f != api.OK {
			t.Fatalf("P10.1: Get of %d: %d, %d; want %d", u, back, f, x)
		}
	}
}

func TestEveryFoldedNumberComesBack(t *testing.T) {
	for u := range 33554433 {
		x, e := Get(u)
		if e != api.OK {
			t.Fatalf("P10.1: Get of %d: %d, %d", u, x, e)
		}
		if back, f := Put(x); back != u || f != api.OK {
			t.Fatalf("P10.1: Put of %d: %d, %d; want %d", x, back, f, u)
		}
	}
}

func TestSeveralGoroutinesAtOneTime(t *testing.T) {
	var wait sync.WaitGroup
	for k := range 8 {
		wait.Go(func() {
			for x := k - 16777216; x <= 16777216; x += 4096 {
				u, e := Put(x)
				if back, f := Get(u); u != plainPut(x) || e != api.OK || back != x || f != api.OK {
					t.Errorf("R5: %d: %d, %d, %d, %d; want %d", x, u, e, back, f, plainPut(x))
				}
			}
		})
	}
	wait.Wait()
}

// plainPut is the chapter's Put by its words.
func plainPut(x int) int {
	if x < 0 {
		minus := -x
		return minus + minus - 1
	}
	return x + x
}

func isNoPut(t *testing.T, x int) {
	t.Helper()
	if got, e := Put(x); got != 0 || e != api.ErrFoldForm {
		t.Errorf("P10.1: Put of %d: %d, %d; want ErrFoldForm", x, got, e)
	}
}

func isNoGet(t *testing.T, u int) {
	t.Helper()
	if got, e := Get(u); got != 0 || e != api.ErrFoldForm {
		t.Errorf("P10.1: Get of %d: %d, %d; want ErrFoldForm", u, got, e)
	}
}
