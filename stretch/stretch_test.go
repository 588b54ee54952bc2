package stretch

import (
	"math"
	"sync"
	"testing"

	"descant/api"
)

// written is the chapter's table, written down once more.
var written = []int{1, 2, 3, 6, 10, 16, 27, 45, 73, 120, 194, 310, 488, 747, 1101, 1546, 2047, 2549, 2994, 3348, 3607, 3785,
	3901, 3975, 4022, 4050, 4068, 4079, 4085, 4089, 4092, 4093, 4094}

func TestEveryPlaceOfTheTable(t *testing.T) {
	if len(written) != 33 {
		t.Fatalf("the table has %d places", len(written))
	}
	// The first place is -2048, which is below all that the table tells, the last is 2048, which is above.
	for d := 1; d < 32; d++ {
		isSquash(t, 128*(d-16), written[d])
	}
	isSquash(t, -2048, 0)
	isSquash(t, 2048, 4095)
}

// The chances are worked out by hand.
func TestSquashWorkedOutByHand(t *testing.T) {
	for _, c := range []struct{ x, want int }{
		// (1 * 127 + 2 * 1 + 64) / 128 is 193 / 128; from -1984 on it is 256 / 128.
		{-2047, 1},
		{-1985, 1},
		{-1984, 2},
		{-1921, 2},
		{-1920, 2},
		{-1919, 2},
		// (1546 * 1 + 2047 * 127 + 64) / 128 is 261579 / 128, (2047 * 127 + 2549 * 1 + 64) / 128 is 262582 / 128.
		{-1, 2043},
		{0, 2047},
		{1, 2051},
		// (1546 * 127 + 2047 * 1 + 64) / 128 is 198453 / 128, (1101 * 1 + 1546 * 127 + 64) / 128 is 197507 / 128.
		{-127, 1550},
		{-128, 1546},
		{-129, 1543},
		// (1546 * 64 + 2047 * 64 + 64) / 128 is 230016 / 128, (2047 * 64 + 2549 * 64 + 64) / 128 is 294208 / 128.
		{-64, 1797},
		{64, 2298},
		{127, 2545},
		{128, 2549},
		{129, 2552},
		{1920, 4093},
		{1983, 4093},
		{1984, 4094},
		{2046, 4094},
		{2047, 4094},
	} {
		isSquash(t, c.x, c.want)
	}
}

func TestEveryNumberThatTheTableTells(t *testing.T) {
	for x := -2047; x <= 2047; x++ {
		isSquash(t, x, plainSquash(x))
	}
}

func TestAboveAndBelowTheTable(t *testing.T) {
	for _, far := range []int{2048, 2049, 2175, 2176, 2177, 4095, 4096, 65536, 1<<31 - 1, 1 << 31, 1 << 32, 1<<32 + 5, 1 << 62,
		math.MaxInt - 2048, math.MaxInt - 1, math.MaxInt} {
		isSquash(t, far, 4095)
		isSquash(t, -far, 0)
	}
	for _, far := range []int{math.MinInt, math.MinInt + 1, math.MinInt + 2047, math.MinInt + 2048} {
		isSquash(t, far, 0)
	}
	for x := 2048; x < 10000; x++ {
		isSquash(t, x, 4095)
		isSquash(t, -x, 0)
	}
}

// Stretch leans on it.
func TestSquashNeverFalls(t *testing.T) {
	for x := -2100; x < 2100; x++ {
		if here, behind := Squash(x), Squash(x+1); here > behind {
			t.Fatalf("P6.1: Squash of %d is %d, of %d it is %d", x, here, x+1, behind)
		}
	}
}

// The numbers are worked out by hand.
func TestStretchWorkedOutByHand(t *testing.T) {
	for _, c := range []struct{ p, want int }{
		// -2047 has the chance 1: nothing that may be answered has 0.
		{0, -2047},
		{1, -2047},
		{2, -1984},
		// From 2 to 3 the half is at -1856.
		{3, -1856},
		// 2044, 2045, 2046 are no number's chance: -1 has 2043, 0 has 2047.
		{2043, -1},
		{2044, 0},
		{2045, 0},
		{2046, 0},
		{2047, 0},
		{2048, 1},
		{2051, 1},
		{2052, 2},
		{1546, -128},
		{1547, -127},
		{1550, -127},
		{2549, 128},
		{4093, 1856},
		{4094, 1984},
		// No number's chance is so great.
		{4095, 2047},
	} {
		isStretch(t, c.p, c.want)
	}
}

func TestEveryChance(t *testing.T) {
	met := 0
	for p := 0; p <= 4095; p++ {
		want := plainStretch(p)
		isStretch(t, p, want)
		if plainSquash(want) == p {
			met++
		}
	}
	if met < 100 || met > 4000 {
		t.Fatalf("%d chances are met exactly: both kinds were to be asked", met)
	}
}

// A number's chance leads back to it, or to the first that has the same chance.
func TestBackFromEveryNumber(t *testing.T) {
	for x := -2047; x <= 2047; x++ {
		first := x
		for first > -2047 && plainSquash(first-1) == plainSquash(x) {
			first--
		}
		isStretch(t, Squash(x), first)
	}
}

func TestWrongChances(t *testing.T) {
	for _, p := range []int{-1, -2, -2047, -4095, -4096, 4096, 4097, 8191, 65536, 1 << 32, 1<<32 + 1, -1 << 32, 1<<32 + 2047,
		1 << 62, math.MaxInt, math.MinInt} {
		if got, e := Stretch(p); got != 0 || e != api.ErrStretchForm {
			t.Errorf("P6.2: Stretch of %d: %d, %d; want ErrStretchForm", p, got, e)
		}
	}
}

func TestSeveralGoroutinesAtOneTime(t *testing.T) {
	var wait sync.WaitGroup
	for k := range 8 {
		wait.Go(func() {
			for x := -2100 + k; x < 2100; x += 8 {
				if got := Squash(x); got != plainSquash(x) {
					t.Errorf("R5: Squash of %d: %d; want %d", x, got, plainSquash(x))
				}
			}
			for p := k; p <= 4095; p += 64 {
				if got, e := Stretch(p); got != plainStretch(p) || e != api.OK {
					t.Errorf("R5: Stretch of %d: %d, %d; want %d", p, got, e, plainStretch(p))
				}
			}
		})
	}
	wait.Wait()
}

// plainSquash is the chapter's Squash by its words; floats hold what is asked here exactly, and Floor rounds down below 0
// too.
func plainSquash(x int) int {
	if x > 2047 {
		return 4095
	}
	if x < -2047 {
		return 0
	}
	whole := math.Floor(float64(x) / 128)
	w := float64(x) - 128*whole
	d := int(whole) + 16
	return int(math.Floor((float64(written[d])*(128-w) + float64(written[d+1])*w + 64) / 128))
}

// plainStretch asks one number behind the other, as the chapter has it.
func plainStretch(p int) int {
	for x := -2047; x <= 2047; x++ {
		if plainSquash(x) >= p {
			return x
		}
	}
	return 2047
}

func isSquash(t *testing.T, x int, want int) {
	t.Helper()
	if got := Squash(x); got != want {
		t.Errorf("P6.1: Squash of %d: %d; want %d", x, got, want)
	}
}

func isStretch(t *testing.T, p int, want int) {
	t.Helper()
	if got, e := Stretch(p); got != want || e != api.OK {
		t.Errorf("P6.2: Stretch of %d: %d, %d; want %d", p, got, e, want)
	}
}
