package count

import (
	"math"
	"sync"
	"testing"

	"descant/api"
)

// wrongCounters are none, some by a step, some far beyond; of some the lowest bits alone would be a counter.
var wrongCounters = []int{-1, -2, -15, -16, -17, -32768, -65535, -65536, 65536, 65537, 65551, 65552, 98304, 131071,
	1<<31 - 1, 1 << 31, 1 << 32, 1<<32 + 32768, -1 << 32, 1 << 62, -1 << 62, math.MaxInt - 1, math.MaxInt, math.MinInt + 1,
	math.MinInt}

// wrongBits are neither 0 nor 1, though the lowest bits of some are.
var wrongBits = []int{-1, -2, 2, 3, 16, 255, 256, 257, 65536, 65537, 1 << 32, 1<<32 + 1, -1 << 32, math.MaxInt, math.MinInt,
	math.MinInt + 1}

func TestANewCounterTellsTheHalf(t *testing.T) {
	if got := New(); got != 32768 {
		t.Fatalf("P7.1: New: %d; want 32768", got)
	}
	isP(t, New(), 2048)
	// 32767 / 16 is 2047 and 15 more, 32768 / 16 is 2048.
	isNext(t, New(), 1, 34815)
	isNext(t, New(), 0, 30720)
}

// The counters are worked out by hand.
func TestNextWorkedOutByHand(t *testing.T) {
	for _, c := range []struct{ from, bit, want int }{
		// At an end the bit that leads there moves nothing, the other a sixteenth of all: 65535 / 16 is 4095 and 15 more.
		{0, 0, 0},
		{0, 1, 4095},
		{65535, 1, 65535},
		{65535, 0, 61440},
		{1, 0, 1},
		// 65534 / 16 is 4095 and 14 more.
		{1, 1, 4096},
		{65534, 1, 65534},
		{65534, 0, 61439},
		// A sixteenth of 15 is 0, of 16 it is 1; 65520 / 16 is 4095, 65519 / 16 is 4094 and 15 more.
		{15, 0, 15},
		{15, 1, 4110},
		{16, 0, 15},
		{16, 1, 4110},
		{17, 0, 16},
		{17, 1, 4111},
		{31, 0, 30},
		{32, 0, 30},
		// From 65520 there are 15 to go, from 65519 there are 16.
		{65520, 1, 65520},
		{65520, 0, 61425},
		{65519, 1, 65520},
		{65519, 0, 61425},
		{65518, 1, 65519},
		{65518, 0, 61424},
		{65504, 1, 65505},
		{65503, 1, 65505},
		// 64535 / 16 is 4033 and 7 more, 1000 / 16 is 62 and 8 more.
		{1000, 1, 5033},
		{1000, 0, 938},
		// 15535 / 16 is 970 and 15 more, 50000 / 16 is 3125.
		{50000, 1, 50970},
		{50000, 0, 46875},
	} {
		isNext(t, c.from, c.bit, c.want)
	}
}

// The chances are worked out by hand.
func TestPWorkedOutByHand(t *testing.T) {
	for _, c := range []struct{ from, want int }{
		// Below 16 a sixteenth is 0, which is raised; at 16 it is 1 by itself.
		{0, 1},
		{1, 1},
		{15, 1},
		{16, 1},
		{31, 1},
		{32, 2},
		{47, 2},
		{48, 3},
		{1000, 62},
		{32767, 2047},
		{32768, 2048},
		{50000, 3125},
		{65503, 4093},
		{65504, 4094},
		{65519, 4094},
		{65520, 4095},
		{65534, 4095},
		{65535, 4095},
	} {
		isP(t, c.from, c.want)
	}
}

func TestEveryCounter(t *testing.T) {
	for c := range 65536 {
		isNext(t, c, 0, plainNext(c, 0))
		isNext(t, c, 1, plainNext(c, 1))
		isP(t, c, plainP(c))
	}
}

// However long a row of one bit is, the counter stays where the next sixteenth is 0, and the chance is one that a coder
// takes.
func TestLongRowsOfOneBit(t *testing.T) {
	for _, c := range []struct{ bit, end, chance int }{
		{0, 15, 1},
		{1, 65520, 4095},
	} {
		at := New()
		for range 1000 {
			next, e := Next(at, c.bit)
			if e != api.OK {
				t.Fatalf("P7.1: Next of %d, %d: %d", at, c.bit, e)
			}
			at = next
		}
		if at != c.end {
			t.Errorf("P7.1: behind bits of %d: %d; want %d", c.bit, at, c.end)
		}
		isP(t, at, c.chance)
	}
}

func TestWrongCounters(t *testing.T) {
	for _, c := range wrongCounters {
		isNoNext(t, c, 0)
		isNoNext(t, c, 1)
		if got, e := P(c); got != 0 || e != api.ErrCountForm {
			t.Errorf("P7.1: P of %d: %d, %d; want ErrCountForm", c, got, e)
		}
	}
}

func TestWrongBits(t *testing.T) {
	for _, bit := range wrongBits {
		for _, c := range []int{0, 1, 15, 16, 32768, 65519, 65520, 65535} {
			isNoNext(t, c, bit)
		}
		for _, c := range wrongCounters {
			isNoNext(t, c, bit)
		}
	}
}

func TestSeveralGoroutinesAtOneTime(t *testing.T) {
	var wait sync.WaitGroup
	for k := range 8 {
		wait.Go(func() {
			for c := k; c < 65536; c += 8 {
				bit := c / 8 % 2
				if got, e := Next(c, bit); got != plainNext(c, bit) || e != api.OK {
					t.Errorf("R5: Next of %d, %d: %d, %d; want %d", c, bit, got, e, plainNext(c, bit))
				}
				if got, e := P(c); got != plainP(c) || e != api.OK {
					t.Errorf("R5: P of %d: %d, %d; want %d", c, got, e, plainP(c))
				}
				if got := New(); got != 32768 {
					t.Errorf("R5: New: %d", got)
				}
			}
		})
	}
	wait.Wait()
}

// plainNext is the chapter's Next by its words; floats hold what is asked here exactly.
func plainNext(c int, bit int) int {
	if bit == 1 {
		return c + int(math.Floor(float64(65535-c)/16))
	}
	return c - int(math.Floor(float64(c)/16))
}

// plainP is the chapter's P by its words.
func plainP(c int) int {
	p := int(math.Floor(float64(c) / 16))
	if p < 1 {
		return 1
	}
	if p > 4095 {
		return 4095
	}
	return p
}

func isNext(t *testing.T, c int, bit int, want int) {
	t.Helper()
	if got, e := Next(c, bit); got != want || e != api.OK {
		t.Errorf("P7.1: Next of %d, %d: %d, %d; want %d", c, bit, got, e, want)
	}
}

func isNoNext(t *testing.T, c int, bit int) {
	t.Helper()
	if got, e := Next(c, bit); got != 0 || e != api.ErrCountForm {
		t.Errorf("P7.1: Next of %d, %d: %d, %d; want ErrCountForm", c, bit, got, e)
	}
}

func isP(t *testing.T, c int, want int) {
	t.Helper()
	if got, e := P(c); got != want || e != api.OK {
		t.Errorf("P7.1: P of %d: %d, %d; want %d", c, got, e, want)
	}
}
