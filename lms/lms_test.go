package lms

import (
	"math"
	"sync"
	"testing"

	"descant/api"
)

const (
	top  = api.MaxWeight
	peak = api.MaxGuess
	// far is the end of what may come.
	far = 4 * api.MaxGuess
	// whole is the weight that takes its number as it is.
	whole = 4096
)

// row is what a line has of one kind.
type row = [8]int

var (
	// edgeWeights and edgeNumbers are those at the ends, within a step of them, about 0 and about the whole.
	edgeWeights = []int{-top, -top + 1, -top + 15, -top + 16, -top + 17, -whole, -17, -16, -15, -1, 0, 1, 15, 16, 17, whole,
		top - 17, top - 16, top - 15, top - 1, top}
	edgeNumbers = []int{-far, -far + 1, -peak - 1, -peak, -4097, -4096, -4095, -1, 0, 1, 4095, 4096, 4097, peak, peak + 1,
		far - 1, far}

	// Those that may not be are beyond the ends, by one and far; of some the lowest bits alone would be fine.
	wrongWeights = []int{1048577, -1048577, 1048578, -1048578, 2097152, -2097152, 4194304, -4194304, 1<<31 - 1, 1 << 31, 1 << 32,
		1<<32 + 5, -1 << 32, 1 << 62, -1 << 62, math.MaxInt, math.MinInt, math.MinInt + 1}
	wrongNumbers = []int{4194305, -4194305, 4194306, -4194306, 8388608, -8388608, 1<<31 - 1, 1 << 31, 1 << 32, 1<<32 + 5,
		-1 << 32, 1 << 62, -1 << 62, math.MaxInt, math.MinInt, math.MinInt + 1}
)

// numbered is a row of them, the same each time.
type numbered uint64

func (n *numbered) next(below int) int {
	*n = *n*6364136223846793005 + 1442695040888963407
	return int(uint64(*n) >> 33 % uint64(below))
}

func TestMay(t *testing.T) {
	for _, l := range []api.Lms{
		{},
		{Weights: row{1, -2, 3, -4, 5, -6, 7, -8}, History: row{100, -200, 300, -400, 500, -600, 700, -800}},
		{Weights: filled(top), History: filled(far)},
		{Weights: filled(top), History: filled(-far)},
		{Weights: filled(-top), History: filled(far)},
		{Weights: filled(-top), History: filled(-far)},
		{Weights: filled(top), History: filled(peak + 1)},
	} {
		if !May(l) {
			t.Errorf("P14.1: %v may be", l)
		}
	}
	for i := range 8 {
		for _, w := range edgeWeights {
			for _, x := range edgeNumbers {
				var l api.Lms
				l.Weights[i], l.History[7-i] = w, x
				if !May(l) {
					t.Errorf("P14.1: %v may be", l)
				}
			}
		}
	}
}

func TestGuessOfNothing(t *testing.T) {
	isGuess(t, api.Lms{}, 0)
	isGuess(t, api.Lms{Weights: filled(top)}, 0)
	isGuess(t, api.Lms{History: filled(-far)}, 0)
}

// At each place a number is weighed by the weight of the same place, above 0 and below; the others' weights have no number,
// or their numbers no weight.
func TestGuessAtEachPlace(t *testing.T) {
	for i := range 8 {
		for _, l := range []api.Lms{{}, {Weights: filled(5)}, {Weights: filled(-top)}, {History: filled(77)}, {History: filled(-far)}} {
			for _, c := range []struct{ w, x, want int }{
				{whole, 1000, 1000},
				{-whole, 1000, -1000},
				{whole, -1000, -1000},
				{-whole, -1000, 1000},
				{2 * whole, 1000, 2000},
				{whole / 2, -1000, -500},
				{1, 3 * whole, 3},
				{-3, whole, -3},
				{0, far, 0},
				{top, 0, 0},
			} {
				l.Weights[i], l.History[i] = c.w, c.x
				isGuess(t, l, c.want)
			}
		}
	}
}

func TestGuessTakesAllPlaces(t *testing.T) {
	l := api.Lms{Weights: row{1, 2, 3, 4, 5, 6, 7, 8}, History: row{whole, 10 * whole, 100 * whole, 1000 * whole, 500 * whole, -7 * whole, -9 * whole, -2 * whole}}
	// 1 and 20 and 300 and 4000 and 2500, less 42 and 63 and 16.
	isGuess(t, l, 6700)
	l.Weights = row{-1, 2, -3, 4, -5, 6, -7, 8}
	// -1 and 20, -300 and 4000, -2500 less 42, 63 less 16.
	isGuess(t, l, 1224)
}

func TestGuessRoundsDown(t *testing.T) {
	for _, c := range []struct {
		weights row
		numbers row
		want    int
	}{
		{row{1}, row{4095}, 0},
		{row{1}, row{4096}, 1},
		{row{1}, row{4097}, 1},
		{row{1}, row{8191}, 1},
		{row{1}, row{8192}, 2},
		{row{1}, row{1}, 0},
		// -1 / 4096 is below 0, and above -1.
		{row{1}, row{-1}, -1},
		{row{-1}, row{1}, -1},
		{row{-1}, row{-1}, 0},
		{row{1}, row{-4095}, -1},
		{row{1}, row{-4096}, -1},
		{row{-1}, row{4097}, -2},
		{row{-1}, row{8192}, -2},
		{row{1}, row{-8193}, -3},
		// The sum is rounded, not each product.
		{row{1, 1}, row{2048, 2048}, 1},
		{row{1, 0, 0, 0, 0, 0, 0, 1}, row{4095, 0, 0, 0, 0, 0, 0, 1}, 1},
		{filled(1), filled(512), 1},
		{filled(1), filled(511), 0},
		{filled(1), filled(-1), -1},
		{filled(-1), filled(512), -1},
		{filled(-1), filled(513), -2},
		{row{1, -1}, row{1, 1}, 0},
		{row{1, -1}, row{1, 2}, -1},
	} {
		isGuess(t, api.Lms{Weights: c.weights, History: c.numbers}, c.want)
	}
}

func TestGuessHasEnds(t *testing.T) {
	for _, c := range []struct {
		weights row
		numbers row
		want    int
	}{
		{row{whole}, row{peak - 1}, peak - 1},
		{row{whole}, row{peak}, peak},
		{row{whole}, row{peak + 1}, peak},
		{row{whole}, row{-peak + 1}, -peak + 1},
		{row{-whole}, row{peak}, -peak},
		{row{-whole}, row{peak + 1}, -peak},
		{row{whole}, row{-peak - 2}, -peak},
		// 1048576 times 4096 is just as much; with 1 less, with 1 and with 4096 beside it.
		{row{top}, row{4096}, peak},
		{row{top, 1}, row{4096, -1}, peak - 1},
		{row{top, 1}, row{4096, 1}, peak},
		{row{top, 1}, row{4096, 4095}, peak},
		{row{top, 1}, row{4096, 4096}, peak},
		{row{-top}, row{4096}, -peak},
		{row{-top, 1}, row{4096, 1}, -peak},
		{row{-top, 1}, row{4096, 4095}, -peak},
		{row{-top, 1}, row{4096, 4096}, -peak + 1},
		{row{-top, 1}, row{4096, -1}, -peak},
		// Far beyond.
		{filled(top), filled(far), peak},
		{filled(-top), filled(-far), peak},
		{filled(top), filled(-far), -peak},
		{filled(-top), filled(far), -peak},
		{row{0, 0, 0, 0, 0, 0, 0, top}, filled(far), peak},
		{row{0, 0, 0, 0, 0, 0, 0, top}, filled(-far), -peak},
		// Only the sum has ends: what is far beyond on one side is taken back by the other.
		{row{top, -top, 0, whole}, row{far, far, 0, 12}, 12},
		{row{top, top, top, top, -top, -top, -top, -top}, filled(-far), 0},
		{row{top, top, whole}, row{-far, far, -12}, -12},
	} {
		isGuess(t, api.Lms{Weights: c.weights, History: c.numbers}, c.want)
	}
}

// Each line is worked out by hand from the one ahead of it.
func TestLearnAFewNumbers(t *testing.T) {
	l := api.Lms{}
	for _, c := range []struct {
		guess   int
		x       int
		weights row
		numbers row
	}{
		// There are no numbers yet: no weight goes.
		{0, 5, row{}, row{5}},
		{0, 7, row{16}, row{7, 5}},
		// 112 / 4096 is 0 and some: off is -3.
		{0, -3, row{0, -16}, row{-3, 7, 5}},
		// -112 / 4096 is below 0: off is 1, though x is 0.
		{-1, 0, row{-16, 0, 16}, row{0, -3, 7, 5}},
		// 112 / 4096 again: off is 0, though x is 0 beside numbers that are not.
		{0, 0, row{-16, 0, 16}, row{0, 0, -3, 7, 5}},
		// -48 / 4096 is below 0: off is -9999. 0 is not gone by.
		{-1, -10000, row{-16, 0, 32, -16, -16}, row{-10000, 0, 0, -3, 7, 5}},
		// 160000 and 48 and -112 are 159936, 39 and some of 4096: off is 1.
		{39, 40, row{-32, 0, 32, -32, 0, 16}, row{40, -10000, 0, 0, -3, 7, 5}},
		// -1280 and 112 are -1168: off is -1.
		{-1, -2, row{-48, 16, 32, -32, 16, 0, -16}, row{-2, 40, -10000, 0, 0, -3, 7, 5}},
		// 96, 640, -320000 and -112 are -319376, which is -77 and some less: off is 0.
		{-78, -78, row{-48, 16, 32, -32, 16, 0, -16}, row{-78, -2, 40, -10000, 0, 0, -3, 7}},
		// 3744, -32, 1280, 320000 and 48 are 325040, 79 and some: off is 21. The last place goes for the first time.
		{79, 100, row{-64, 0, 48, -48, 16, 0, -32, 16}, row{100, -78, -2, 40, -10000, 0, 0, -3}},
	} {
		isGuess(t, l, c.guess)
		isLearned(t, l, c.x, api.Lms{Weights: c.weights, History: c.numbers})
		l, _ = Learn(l, c.x)
	}
}

// A place learns first when its number is there; all go on until the guess is right, then none goes any more.
func TestLearnOneNumberManyTimes(t *testing.T) {
	for _, c := range []struct {
		x int
		// first is the first place's weight at the end, by steps. Each further one has a step less.
		first int
		guess int
	}{
		// 260 steps of 16 times 4 are 16640, which is 4 and some of 4096; 8 steps less are 3 and some.
		{4, 36, 4},
		// 196 steps are -12544, which is -3 and some less: rounded down it is -4 already. 8 steps less are -12032, -2 and some
		// less.
		{-4, 28, -4},
		{0, 0, 0},
	} {
		l, e := api.Lms{}, api.OK
		for range 200 {
			l, e = Learn(l, c.x)
			if e != api.OK || !May(l) {
				t.Fatalf("P14.2: %d many times: %v, %d", c.x, l, e)
			}
		}
		want := api.Lms{History: filled(c.x)}
		for i := range want.Weights {
			want.Weights[i] = 16 * max(0, c.first-i)
		}
		if l != want {
			t.Errorf("P14.2: %d many times: %v; want %v", c.x, l, want)
		}
		isGuess(t, l, c.guess)
		isLearned(t, l, c.x, want)
	}
}

// Beyond what a guess may be there is always something to learn: the weights go to their ends, and stay there.
func TestLearnTheFarthestManyTimes(t *testing.T) {
	for _, x := range []int{far, -far} {
		l := api.Lms{}
		for range 65536 + 8 {
			l, _ = Learn(l, x)
		}
		want := api.Lms{Weights: filled(top), History: filled(x)}
		if l != want {
			t.Errorf("P14.2: %d many times: %v", x, l)
		}
		isGuess(t, l, x/4)
		isLearned(t, l, x, want)
		// And back by a step.
		want.Weights = filled(top - 16)
		copy(want.History[1:], l.History[:7])
		want.History[0] = -x
		isLearned(t, l, -x, want)
	}
}

func TestLearnByBothSigns(t *testing.T) {
	for i := range 8 {
		for _, c := range []struct{ number, off, step int }{
			{1, 1, 16}, {-1, -1, 16}, {1, -1, -16}, {-1, 1, -16}, {1, 0, 0}, {-1, 0, 0}, {0, 1, 0}, {0, -1, 0}, {0, 0, 0},
			{far, 1, 16}, {far, -1, -16}, {-far, 1, -16}, {-far, -1, 16}, {1, 3000000, 16}, {-1, 3000000, -16},
			{far, -3000000, -16}, {-far, -3000000, 16},
		} {
			// The other places make the guess, and learn by the same off: those above 0 with it, those below against it.
			l := api.Lms{Weights: row{-5, 4, -3, 2, -1, 6, -7, 8}, History: row{9000, 8000, 0, -7000, 6000, 5000, 0, -4000}}
			l.Weights[i], l.History[i] = 0, c.number
			want := l
			for k, aligned := range []int{16, 16, 0, -16, 16, 16, 0, -16} {
				switch {
				case c.off > 0:
					want.Weights[k] += aligned
				case c.off < 0:
					want.Weights[k] -= aligned
				}
			}
			want.Weights[i] = c.step
			x := plainGuess(l) + c.off
			want.History = row{x, l.History[0], l.History[1], l.History[2], l.History[3], l.History[4], l.History[5], l.History[6]}
			isLearned(t, l, x, want)
		}
	}
}

func TestLearnHoldsWeightsAtTheirEnds(t *testing.T) {
	for i := range 8 {
		for _, c := range []struct{ from, up, down int }{
			{top, top, top - 16},
			{top - 1, top, top - 17},
			{top - 15, top, top - 31},
			{top - 16, top, top - 32},
			{top - 17, top - 1, top - 33},
			{-top, -top + 16, -top},
			{-top + 1, -top + 17, -top},
			{-top + 15, -top + 31, -top},
			{-top + 16, -top + 32, -top},
			{-top + 17, -top + 33, -top + 1},
			{-8, 8, -24},
			{0, 16, -16},
		} {
			for _, number := range []int{1, far, -1, -far} {
				l := api.Lms{}
				l.Weights[i], l.History[i] = c.from, number
				up := 3 * peak
				if number < 0 {
					up = -up
				}
				isWeight(t, l, up, i, c.up)
				isWeight(t, l, -up, i, c.down)
			}
		}
	}
}

// Where nothing is off no weight goes, not even one at its end.
func TestLearnWhatWasGuessed(t *testing.T) {
	for _, l := range []api.Lms{
		{Weights: row{whole, 5, -5}, History: row{321, 0, 0, 7, -7}},
		{Weights: filled(top), History: row{4, 3, 2, 1, -1, -2, -3, -4}},
		{Weights: row{top, -top, 16, -16, 1, -1, 0, 0}, History: row{-far, far, 1, 1, -1, -1, 0, far}},
		{Weights: filled(-top), History: filled(-far)},
		{Weights: row{1}, History: filled(-1)},
	} {
		x := plainGuess(l)
		want := l
		want.History = row{x, l.History[0], l.History[1], l.History[2], l.History[3], l.History[4], l.History[5], l.History[6]}
		isLearned(t, l, x, want)
	}
}

func TestLearnMovesHistory(t *testing.T) {
	for _, x := range []int{-far, -far + 1, -9, 0, 9, far - 1, far} {
		for _, from := range []row{{}, {1, 2, 3, 4, 5, 6, 7, 8}, {-8, 7, -6, 5, -4, 3, -2, 1}, {7: far}, {far},
			filled(far), filled(-far), {far, -far, far, -far, far, -far, far, -far}} {
			got, e := Learn(api.Lms{Weights: row{1, 2, 3, 4}, History: from}, x)
			want := row{x, from[0], from[1], from[2], from[3], from[4], from[5], from[6]}
			if got.History != want || e != api.OK || !May(got) {
				t.Errorf("P14.2: %v learns %d: %v, %d; want %v", from, x, got.History, e, want)
			}
		}
	}
}

// The weights go by what stood ahead of x, each by that of its own place.
func TestLearnGoesByWhatStoodAhead(t *testing.T) {
	isLearned(t, api.Lms{}, far, api.Lms{History: row{far}})
	isLearned(t, api.Lms{}, -far, api.Lms{History: row{-far}})
	isLearned(t, api.Lms{History: row{-1, 1, -1, 1, 0, 1, -1, 0}}, 5,
		api.Lms{Weights: row{-16, 16, -16, 16, 0, 16, -16, 0}, History: row{5, -1, 1, -1, 1, 0, 1, -1}})
	isLearned(t, api.Lms{History: row{-1, 1, -1, 1, 0, 1, -1, 0}}, -5,
		api.Lms{Weights: row{16, -16, 16, -16, 0, -16, 16, 0}, History: row{-5, -1, 1, -1, 1, 0, 1, -1}})
	isLearned(t, api.Lms{History: row{7: -far}}, -5, api.Lms{Weights: row{7: 16}, History: row{-5}})
}

func TestEdgesWithEachOther(t *testing.T) {
	for i := range 8 {
		for _, w := range edgeWeights {
			for _, x := range edgeNumbers {
				l := api.Lms{Weights: row{3, -3, top, -top, 5, -100, 100, 16}, History: row{-1, 1, 0, 2, far, -far, 300, -7}}
				l.Weights[i], l.History[i] = w, x
				isAsTold(t, l)
				l.Weights, l.History = row{}, row{}
				l.Weights[i], l.History[i] = w, x
				isAsTold(t, l)
			}
		}
	}
}

func TestManyOfAllKinds(t *testing.T) {
	n := numbered(14)
	highest, middle, lowest := 0, 0, 0
	for range 20000 {
		var l api.Lms
		for i := range 8 {
			weight, number := []int{20, whole, top}[n.next(3)], []int{1, 1000, 100000, far}[n.next(4)]
			l.Weights[i], l.History[i] = n.next(2*weight+1)-weight, n.next(2*number+1)-number
		}
		isAsTold(t, l)
		switch plainGuess(l) {
		case peak:
			highest++
		case -peak:
			lowest++
		default:
			middle++
		}
	}
	if highest == 0 || middle == 0 || lowest == 0 {
		t.Fatalf("all kinds were to be asked: %d, %d, %d", highest, middle, lowest)
	}
}

func TestLongRows(t *testing.T) {
	n := numbered(41)
	for _, x := range []func(i int) int{
		func(i int) int { return i },
		func(i int) int { return -300 * i },
		func(i int) int { return []int{far, -far}[i%2] },
		func(i int) int { return []int{500, 0, -500, 0}[i%4] },
		func(i int) int { return n.next(2001) - 1000 },
		func(i int) int { return n.next(2*far+1) - far },
	} {
		l := api.Lms{}
		for i := range 3000 {
			want := plainLearn(l, x(i))
			isLearned(t, l, want.History[0], want)
			isGuess(t, want, plainGuess(want))
			l = want
		}
	}
}

func TestWrongWeightsAndNumbers(t *testing.T) {
	for _, from := range []api.Lms{{}, {Weights: filled(7), History: filled(-7)}, {Weights: filled(-top), History: filled(far)}} {
		for i := range 8 {
			for _, w := range wrongWeights {
				l := from
				l.Weights[i] = w
				isNone(t, l)
				// Beside another of its kind, and beside one of the other kind.
				l.Weights[(i+3)%8] = -w
				isNone(t, l)
				l.History[i] = far + 1
				isNone(t, l)
			}
			for _, x := range wrongNumbers {
				l := from
				l.History[i] = x
				isNone(t, l)
				l.History[(i+5)%8] = -x
				isNone(t, l)
			}
		}
	}
}

func TestWrongX(t *testing.T) {
	for _, l := range []api.Lms{
		{},
		{Weights: row{1, -2, 3}, History: row{4, -5, 6}},
		{Weights: filled(top), History: filled(far)},
		{Weights: filled(top + 1)},
		{History: filled(-far - 1)},
	} {
		for _, x := range wrongNumbers {
			isUnlearned(t, l, x)
		}
	}
}

func TestWhatIsHandedInStays(t *testing.T) {
	l := api.Lms{Weights: row{1, 2, 3, 4, 5, 6, 7, 8}, History: row{8, 7, 6, 5, 4, 3, 2, 1}}
	before := l
	May(l)
	Guess(l)
	got, e := Learn(l, 3)
	if e != api.OK || got.Weights == l.Weights || got.History == l.History || l != before {
		t.Errorf("R4: %v, %v, %d", l, got, e)
	}
}

func TestSeveralGoroutinesAtOneTime(t *testing.T) {
	var wait sync.WaitGroup
	for k := range 8 {
		wait.Go(func() {
			l := api.Lms{}
			for i := range 2000 {
				want := plainLearn(l, 1000*k-i%77)
				isLearned(t, l, 1000*k-i%77, want)
				l = want
			}
		})
	}
	wait.Wait()
}

func filled(x int) row {
	return row{x, x, x, x, x, x, x, x}
}

// plainGuess is the chapter's Guess by its words; floats hold what is asked here exactly, and Floor rounds down below 0 too.
func plainGuess(l api.Lms) int {
	sum := 0.0
	for i := range 8 {
		sum += float64(l.Weights[i]) * float64(l.History[i])
	}
	guessed := math.Floor(sum / 4096)
	if guessed < -1048576 {
		return -1048576
	}
	if guessed > 1048576 {
		return 1048576
	}
	return int(guessed)
}

// plainLearn is the chapter's Learn by its words.
func plainLearn(l api.Lms, x int) api.Lms {
	off := x - plainGuess(l)
	out := api.Lms{History: row{x}}
	for i := range 8 {
		number, w := l.History[i], l.Weights[i]
		switch {
		case off > 0 && number > 0, off < 0 && number < 0:
			w += 16
		case off > 0 && number < 0, off < 0 && number > 0:
			w -= 16
		}
		if w < -1048576 {
			w = -1048576
		}
		if w > 1048576 {
			w = 1048576
		}
		out.Weights[i] = w
		if i < 7 {
			out.History[i+1] = number
		}
	}
	return out
}

// isAsTold asks numbers at both ends, about 0, and just what was guessed and beside it.
func isAsTold(t *testing.T, l api.Lms) {
	t.Helper()
	guessed := plainGuess(l)
	isGuess(t, l, guessed)
	for _, x := range []int{-far, -1, 0, 1, far, guessed - 1, guessed, guessed + 1} {
		isLearned(t, l, x, plainLearn(l, x))
	}
}

func isGuess(t *testing.T, l api.Lms, want int) {
	t.Helper()
	if got, e := Guess(l); got != want || e != api.OK {
		t.Errorf("P14.1: Guess of %v: %d, %d; want %d", l, got, e, want)
	}
}

func isLearned(t *testing.T, l api.Lms, x int, want api.Lms) {
	t.Helper()
	if got, e := Learn(l, x); got != want || e != api.OK || !May(got) {
		t.Errorf("P14.2: Learn of %v, %d: %v, %d; want %v", l, x, got, e, want)
	}
}

func isWeight(t *testing.T, l api.Lms, x int, i int, want int) {
	t.Helper()
	expected := api.Lms{Weights: l.Weights, History: row{x}}
	expected.Weights[i] = want
	copy(expected.History[1:], l.History[:7])
	isLearned(t, l, x, expected)
}

// isNone: neither May nor Guess takes l, nor does Learn, whatever x is.
func isNone(t *testing.T, l api.Lms) {
	t.Helper()
	if May(l) {
		t.Errorf("P14.1: %v may not be", l)
	}
	if got, e := Guess(l); got != 0 || e != api.ErrLmsForm {
		t.Errorf("P14.1: Guess of %v: %d, %d; want ErrLmsForm", l, got, e)
	}
	for _, x := range []int{0, 5, -5, far, -far, far + 1, -far - 1, math.MinInt} {
		isUnlearned(t, l, x)
	}
}

func isUnlearned(t *testing.T, l api.Lms, x int) {
	t.Helper()
	if got, e := Learn(l, x); got != (api.Lms{}) || e != api.ErrLmsForm {
		t.Errorf("P14.2: Learn of %v, %d: %v, %d; want ErrLmsForm", l, x, got, e)
	}
}
