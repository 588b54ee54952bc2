package mix

import (
	"math"
	"sync"
	"testing"

	"descant/api"
	"descant/stretch"
)

const (
	top   = api.MaxWeight
	whole = 65536
)

var (
	// edgeWeights and edgeInputs are those at the ends, the middle and beside them.
	edgeWeights = []int{-1048576, -1048575, -22000, -1, 0, 1, 22000, 65536, 1048575, 1048576}
	edgeInputs  = []int{-2047, -2046, -513, -1, 0, 1, 512, 2046, 2047}

	// wrongWeights and wrongInputs are beyond the ends, by one and far; of some the lowest bits alone would be fine.
	wrongWeights = []int{1048577, -1048577, 1048578, -1048578, 2097152, -2097152, 1<<31 - 1, 1 << 31, 1 << 32, 1<<32 + 22000,
		-1 << 32, 1 << 62, -1 << 62, math.MaxInt, math.MinInt + 1, math.MinInt}
	wrongInputs = []int{2048, -2048, 2049, -2049, 4095, -4096, 65536, 1<<31 - 1, 1 << 31, 1 << 32, 1<<32 + 5, -1 << 32, 1 << 62,
		-1 << 62, math.MaxInt, math.MinInt + 1, math.MinInt}
	// wrongBits are neither 0 nor 1, though the lowest bits of some are.
	wrongBits = []int{-1, -2, 2, 3, 255, 256, 257, 4096, 1 << 32, 1<<32 + 1, -1 << 32, math.MaxInt, math.MinInt, math.MinInt + 1}
)

// The chances are worked out by hand; Squash's values are those of chapter 6's table.
func TestDotWorkedOutByHand(t *testing.T) {
	for _, c := range []struct {
		ws, xs [3]int
		want   int
	}{
		{[3]int{}, [3]int{}, 2047},
		{[3]int{top, -top, top}, [3]int{}, 2047},
		{[3]int{}, [3]int{2047, -2047, 2047}, 2047},
		// A weight of 65536 takes its input as it is, whichever of the three it is.
		{[3]int{whole, 0, 0}, [3]int{-64, 2047, 2047}, 1797},
		{[3]int{0, whole, 0}, [3]int{2047, 128, -2047}, 2549},
		{[3]int{0, 0, whole}, [3]int{-2047, -2047, -128}, 1546},
		// Three inputs of 64 by 22000 are 4224000, which is 64 and some: 64 above 0, -65 below.
		{[3]int{22000, 22000, 22000}, [3]int{64, 64, 64}, 2298},
		{[3]int{22000, 22000, 22000}, [3]int{-64, -64, -64}, 1793},
		// 1048576 is sixteen times the whole.
		{[3]int{0, top, 0}, [3]int{0, 1, 0}, 2110},
		{[3]int{0, -top, 0}, [3]int{0, 1, 0}, 1984},
		{[3]int{0, -top, 0}, [3]int{0, -1, 0}, 2110},
		// What is against each other goes.
		{[3]int{top, -top, 0}, [3]int{2047, 2047, 5}, 2047},
		{[3]int{top, top, whole}, [3]int{2047, -2047, 128}, 2549},
	} {
		isDot(t, c.ws, c.xs, c.want)
	}
}

// Just below 0 stands -1, not 0: its chance is 2043, that of 0 is 2047, that of -2 is 2039.
func TestDotRoundsDownBelowZero(t *testing.T) {
	for _, c := range []struct {
		ws   [3]int
		want int
	}{
		{[3]int{whole, 0, 0}, 2051},
		{[3]int{whole - 1, 0, 0}, 2047},
		{[3]int{1, 0, 0}, 2047},
		{[3]int{-1, 0, 0}, 2043},
		{[3]int{-whole + 1, 0, 0}, 2043},
		{[3]int{-whole, 0, 0}, 2043},
		{[3]int{-whole - 1, 0, 0}, 2039},
		{[3]int{-2 * whole, 0, 0}, 2039},
		// The sum is rounded, not each product.
		{[3]int{-1, -1, -1}, 2043},
		{[3]int{whole / 2, whole / 2, 0}, 2051},
		{[3]int{-1, 1, 0}, 2047},
	} {
		isDot(t, c.ws, [3]int{1, 1, 1}, c.want)
	}
}

func TestDotIsNeverRuledOut(t *testing.T) {
	for _, c := range []struct {
		ws, xs [3]int
		want   int
	}{
		// 2047 is the last that the table tells, and so is what lies between it and 2048.
		{[3]int{whole, 0, 0}, [3]int{2047, 0, 0}, 4094},
		{[3]int{whole, whole - 1, 0}, [3]int{2047, 1, 0}, 4094},
		{[3]int{whole, whole, 0}, [3]int{2047, 1, 0}, 4095},
		{[3]int{top, 0, 0}, [3]int{2047, 0, 0}, 4095},
		{[3]int{top, top, top}, [3]int{2047, 2047, 2047}, 4095},
		{[3]int{-top, -top, -top}, [3]int{-2047, -2047, -2047}, 4095},
		// Of -1984 it is 2, of -1985 and of -2047 it is 1; beyond -2047 it is 0, which is raised.
		{[3]int{whole, 0, 0}, [3]int{-1984, 0, 0}, 2},
		{[3]int{whole, -1, 0}, [3]int{-1984, 1, 0}, 1},
		{[3]int{whole, 0, 0}, [3]int{-2047, 0, 0}, 1},
		{[3]int{whole, -1, 0}, [3]int{-2047, 1, 0}, 1},
		{[3]int{whole, whole, 0}, [3]int{-2047, -1, 0}, 1},
		{[3]int{top, 0, 0}, [3]int{-2047, 0, 0}, 1},
		{[3]int{top, top, top}, [3]int{-2047, -2047, -2047}, 1},
		{[3]int{-top, -top, -top}, [3]int{2047, 2047, 2047}, 1},
	} {
		isDot(t, c.ws, c.xs, c.want)
	}
}

// The weights are worked out by hand.
func TestTrainWorkedOutByHand(t *testing.T) {
	for _, c := range []struct {
		ws, xs [3]int
		bit    int
		want   [3]int
	}{
		// Without inputs nothing is learned: 512 / 1024 is 0.
		{[3]int{}, [3]int{}, 0, [3]int{}},
		{[3]int{top, -top, 5}, [3]int{}, 1, [3]int{top, -top, 5}},
		// The chance is 2047: off is 2049. 2561 / 1024 is 2 and some, -1537 / 1024 is -1 and some, 205412 / 1024 is 200 and
		// some.
		{[3]int{}, [3]int{1, -1, 100}, 1, [3]int{2, -2, 200}},
		// Off is -2047. -1535 / 1024 is -1 and some, 2559 / 1024 is 2 and some, -204188 / 1024 is -199 and some.
		{[3]int{}, [3]int{1, -1, 100}, 0, [3]int{-2, 2, -200}},
		// The chance is 2298: off is 1798 or -2298. 115584 / 1024 is 112 and some, -146560 / 1024 is -143 and some.
		{[3]int{22000, 22000, 22000}, [3]int{64, 64, 64}, 1, [3]int{22112, 22112, 22112}},
		{[3]int{22000, 22000, 22000}, [3]int{64, 64, 64}, 0, [3]int{21856, 21856, 21856}},
		// The chance is 4095: off is 1. 1024 / 1024 is 1, 1023 / 1024 is 0 and some.
		{[3]int{top - 9, 0, 0}, [3]int{2047, 512, 511}, 1, [3]int{top - 7, 1, 0}},
		// 0 / 1024 is 0, -1 / 1024 is below 0.
		{[3]int{top - 9, 0, 0}, [3]int{2047, -512, -513}, 1, [3]int{top - 7, 0, -1}},
		// -1024 / 1024 is -1, -1025 / 1024 is below.
		{[3]int{top - 9, 0, 0}, [3]int{2047, -1536, -1537}, 1, [3]int{top - 7, -1, -2}},
		// The greatest step: off is 4095 or -4095. 8382977 / 1024 is 8186 and some, -8381953 / 1024 is -8185 and some.
		{[3]int{-top, 0, 0}, [3]int{2047, 0, 0}, 1, [3]int{-top + 8186, 0, 0}},
		{[3]int{top, 0, 0}, [3]int{2047, 0, 0}, 0, [3]int{top - 8186, 0, 0}},
		{[3]int{0, 0, top}, [3]int{-2047, 2047, -2047}, 1, [3]int{-8186, 8186, top - 8186}},
	} {
		isTrain(t, c.ws, c.xs, c.bit, c.want)
	}
}

func TestTrainHoldsWeightsAtTheirEnds(t *testing.T) {
	for _, c := range []struct {
		ws, xs [3]int
		bit    int
		want   [3]int
	}{
		// Off is 1, or -1: an input of 2047 or -2047 makes a step of 2 or -2.
		{[3]int{top, 0, 0}, [3]int{2047, 0, 0}, 1, [3]int{top, 0, 0}},
		{[3]int{-top, 0, 0}, [3]int{2047, 0, 0}, 0, [3]int{-top, 0, 0}},
		{[3]int{0, top, 0}, [3]int{0, -2047, 0}, 0, [3]int{0, top, 0}},
		{[3]int{0, 0, -top}, [3]int{0, 0, -2047}, 1, [3]int{0, 0, -top}},
		// A step of 1 from beside the end ends there by itself, one of 2 is held.
		{[3]int{top, top - 1, top - 1}, [3]int{2047, 512, 1536}, 1, [3]int{top, top, top}},
		{[3]int{top, -top + 1, -top + 1}, [3]int{2047, -513, -1537}, 1, [3]int{top, -top, -top}},
		// Far beyond the end: the third tells the chance, 1 or 4095.
		{[3]int{top, -top, top}, [3]int{2047, 2047, -2047}, 1, [3]int{top, -top + 8186, top - 8186}},
		{[3]int{top, -top, -top}, [3]int{-2047, -2047, -2047}, 0, [3]int{top, -top + 8186, -top + 8186}},
		// -5 times 2047 is just below 0: the chance is 2043, off 2053. 4203003 / 1024 is 4104 and some.
		{[3]int{top - 5, top - 5, -top}, [3]int{0, 2047, 2047}, 1, [3]int{top - 5, top, -top + 4104}},
	} {
		isTrain(t, c.ws, c.xs, c.bit, c.want)
	}
}

func TestEdgesWithEachOther(t *testing.T) {
	for _, a := range edgeWeights {
		for _, b := range edgeWeights {
			for _, x := range edgeInputs {
				for _, y := range edgeInputs {
					for _, ws := range [][3]int{{a, b, 22000}, {22000, a, b}, {b, 22000, a}} {
						isAsTold(t, ws, [3]int{x, y, -700})
						isAsTold(t, ws, [3]int{300, x, y})
					}
				}
			}
		}
	}
}

func TestManyOfAllKinds(t *testing.T) {
	row := uint64(8)
	next := func(n int) int {
		row = row*6364136223846793005 + 1442695040888963407
		return int(row >> 33 % uint64(n))
	}
	raised, middle, highest := 0, 0, 0
	for range 50000 {
		var ws, xs [3]int
		reach := []int{70000, top}[next(2)]
		for i := range 3 {
			ws[i], xs[i] = next(2*reach+1)-reach, next(2*2047+1)-2047
		}
		isAsTold(t, ws, xs)
		switch plainDot(ws, xs) {
		case 1:
			raised++
		case 4095:
			highest++
		default:
			middle++
		}
	}
	if raised == 0 || middle == 0 || highest == 0 {
		t.Fatalf("all kinds were to be asked: %d, %d, %d", raised, middle, highest)
	}
}

// What is learned never leads away from the bit; where one bit always follows, the chance comes near to it.
func TestTrainLeadsToTheBit(t *testing.T) {
	for _, xs := range [][3]int{{100, -50, 7}, {-300, 200, 1}, {1, 1, 1}, {2047, -2047, 0}, {-1, 0, 0}} {
		for bit := range 2 {
			ws := [3]int{22000, 22000, 22000}
			before, _ := Dot(ws, xs)
			for range 30000 {
				next, e := Train(ws, xs, bit)
				now, f := Dot(next, xs)
				if e != api.OK || f != api.OK || bit == 1 && now < before || bit == 0 && now > before {
					t.Fatalf("P8.2: %v, %v, %d: from %d to %d; %d, %d", ws, xs, bit, before, now, e, f)
				}
				ws, before = next, now
			}
		}
	}
	ws, xs := [3]int{}, [3]int{200, 0, -100}
	for range 30000 {
		ws, _ = Train(ws, xs, 1)
	}
	if p, _ := Dot(ws, xs); p < 4080 {
		t.Errorf("P8.2: behind many bits of 1: %d", p)
	}
}

func TestWrongWeightsAndInputs(t *testing.T) {
	for i := range 3 {
		for _, from := range [][2][3]int{{{}, {}}, {{22000, 22000, 22000}, {64, -64, 1}}, {{top, top, -top}, {2047, -2047, 2047}}} {
			for _, w := range wrongWeights {
				ws, xs := from[0], from[1]
				ws[i] = w
				isNone(t, ws, xs)
				xs[(i+1)%3] = 2048
				isNone(t, ws, xs)
			}
			for _, x := range wrongInputs {
				ws, xs := from[0], from[1]
				xs[i] = x
				isNone(t, ws, xs)
			}
		}
	}
}

// At the ends themselves each of the three may be.
func TestEndsThatMayBe(t *testing.T) {
	for i := range 3 {
		for _, w := range []int{top, -top} {
			for _, x := range []int{2047, -2047} {
				var ws, xs [3]int
				ws[i], xs[(i+1)%3] = w, x
				isDot(t, ws, xs, 2047)
				isAsTold(t, ws, xs)
			}
		}
	}
}

func TestWrongBits(t *testing.T) {
	for _, bit := range wrongBits {
		for _, ws := range [][3]int{{}, {22000, 22000, 22000}, {top, -top, 1}, {top + 1, 0, 0}} {
			for _, xs := range [][3]int{{}, {2047, -2047, 5}, {0, 0, 2048}} {
				if got, e := Train(ws, xs, bit); got != ([3]int{}) || e != api.ErrMixForm {
					t.Errorf("P8.2: Train of %v, %v, %d: %v, %d; want ErrMixForm", ws, xs, bit, got, e)
				}
			}
		}
	}
}

func TestWhatIsHandedInStays(t *testing.T) {
	ws, xs := [3]int{22000, -5, top}, [3]int{64, -2047, 2047}
	if _, e := Dot(ws, xs); e != api.OK {
		t.Fatal(e)
	}
	if got, e := Train(ws, xs, 1); e != api.OK || got == ws {
		t.Fatalf("P8.2: Train of %v, %v, 1: %v, %d; want others", ws, xs, got, e)
	}
	if ws != [3]int{22000, -5, top} || xs != [3]int{64, -2047, 2047} {
		t.Errorf("R4: %v, %v", ws, xs)
	}
}

func TestSeveralGoroutinesAtOneTime(t *testing.T) {
	var wait sync.WaitGroup
	for k := range 8 {
		wait.Go(func() {
			for i := range 2000 {
				isAsTold(t, [3]int{22000 + 131*k, i - 1000, 40 * i}, [3]int{i - 1000, 100*k - 400, 1000 - i})
			}
		})
	}
	wait.Wait()
}

// plainDot is the chapter's Dot by its words; floats hold what is asked here exactly, and Floor rounds down below 0 too.
func plainDot(ws [3]int, xs [3]int) int {
	sum := 0.0
	for i := range 3 {
		sum += float64(ws[i]) * float64(xs[i])
	}
	p := stretch.Squash(int(math.Floor(sum / 65536)))
	if p < 1 {
		return 1
	}
	if p > 4095 {
		return 4095
	}
	return p
}

// plainTrain is the chapter's Train by its words.
func plainTrain(ws [3]int, xs [3]int, bit int) [3]int {
	off := float64(4096*bit - plainDot(ws, xs))
	var out [3]int
	for i := range 3 {
		w := float64(ws[i]) + math.Floor((float64(xs[i])*off+512)/1024)
		if w < -1048576 {
			w = -1048576
		}
		if w > 1048576 {
			w = 1048576
		}
		out[i] = int(w)
	}
	return out
}

func isAsTold(t *testing.T, ws [3]int, xs [3]int) {
	t.Helper()
	isDot(t, ws, xs, plainDot(ws, xs))
	isTrain(t, ws, xs, 0, plainTrain(ws, xs, 0))
	isTrain(t, ws, xs, 1, plainTrain(ws, xs, 1))
}

func isDot(t *testing.T, ws [3]int, xs [3]int, want int) {
	t.Helper()
	if got, e := Dot(ws, xs); got != want || e != api.OK {
		t.Errorf("P8.1: Dot of %v, %v: %d, %d; want %d", ws, xs, got, e, want)
	}
}

func isTrain(t *testing.T, ws [3]int, xs [3]int, bit int, want [3]int) {
	t.Helper()
	if got, e := Train(ws, xs, bit); got != want || e != api.OK {
		t.Errorf("P8.2: Train of %v, %v, %d: %v, %d; want %v", ws, xs, bit, got, e, want)
	}
}

func isNone(t *testing.T, ws [3]int, xs [3]int) {
	t.Helper()
	if got, e := Dot(ws, xs); got != 0 || e != api.ErrMixForm {
		t.Errorf("P8.1: Dot of %v, %v: %d, %d; want ErrMixForm", ws, xs, got, e)
	}
	for bit := range 2 {
		if got, e := Train(ws, xs, bit); got != ([3]int{}) || e != api.ErrMixForm {
			t.Errorf("P8.2: Train of %v, %v, %d: %v, %d; want ErrMixForm", ws, xs, bit, got, e)
		}
	}
}
