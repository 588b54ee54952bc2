package chain

import (
	"math"
	"sync"
	"testing"

	"descant/api"
	"descant/lms"
)

const (
	// loud is the end of what a sample may be.
	loud = api.MaxSample
	top  = api.MaxWeight
	peak = api.MaxGuess
	// far is the end of what a line may learn.
	far = 4 * api.MaxGuess
	// whole is the weight that takes its number as it is.
	whole = 4096
)

// row is what a line has of one kind.
type row = [8]int

var (
	// edgeSamples are those at the ends, beside them and about 0.
	edgeSamples = []int{-loud, -loud + 1, -1, 0, 1, loud - 1, loud}

	// Those that may not be are beyond the ends, by one and far; of some the lowest bits alone would be fine.
	wrongSamples = []int{131073, -131073, 131074, -131074, 262144, -262144, api.MaxGuess, -api.MaxGuess, 4194304, -4194304,
		api.MaxNumber, -api.MaxNumber, 1<<31 - 1, 1 << 31, 1 << 32, 1<<32 + 5, -1 << 32, 1 << 62, -1 << 62, math.MaxInt,
		math.MaxInt - 1, math.MinInt, math.MinInt + 1}
	wrongWeights = []int{1048577, -1048577, 1048578, -2097152, 1 << 31, 1 << 32, -1 << 32, 1 << 62, math.MaxInt, math.MinInt}
	wrongNumbers = []int{4194305, -4194305, 4194306, -8388608, 1 << 31, 1 << 32, -1 << 32, 1 << 62, math.MaxInt, math.MinInt}
)

// numbered is a row of them, the same each time.
type numbered uint64

func (n *numbered) next(below int) int {
	*n = *n*6364136223846793005 + 1442695040888963407
	return int(uint64(*n) >> 33 % uint64(below))
}

// line is one of layer 14, of some kind.
func (n *numbered) line() api.Lms {
	var l api.Lms
	for i := range 8 {
		weight, number := []int{0, 20, whole, top}[n.next(4)], []int{0, 300, 100000, far}[n.next(4)]
		l.Weights[i], l.History[i] = n.next(2*weight+1)-weight, n.next(2*number+1)-number
	}
	return l
}

func (n *numbered) sample() int {
	return []int{n.next(2*loud+1) - loud, n.next(201) - 100, loud, -loud}[n.next(4)]
}

func TestMay(t *testing.T) {
	lines := []api.Lms{
		{},
		{Weights: row{1, -2, 3, -4, 5, -6, 7, -8}, History: row{100, -200, 300, -400, 500, -600, 700, -800}},
		{Weights: filled(top), History: filled(far)},
		{Weights: filled(-top), History: filled(-far)},
	}
	for _, last := range edgeSamples {
		for _, a := range lines {
			for _, b := range lines {
				if c := (api.Chain{Last: last, A: a, B: b}); !May(c) {
					t.Errorf("P15.1: %v may be", c)
				}
			}
		}
	}
}

func TestGuessOfNothing(t *testing.T) {
	isGuess(t, api.Chain{}, 0)
	isGuess(t, api.Chain{A: api.Lms{Weights: filled(top)}, B: api.Lms{History: filled(-far)}}, 0)
}

// Last, what A guesses and what B guesses are three numbers that none of the others could be taken for, alone and together.
func TestGuessTakesAllThree(t *testing.T) {
	for _, last := range []int{0, 7, -7, loud, -loud} {
		for _, a := range []int{0, 100, -100, peak, -peak} {
			for _, b := range []int{0, 3000, -3000, peak, -peak} {
				isGuess(t, api.Chain{Last: last, A: guesser(a), B: guesser(b)}, last+a+b)
			}
		}
	}
	isGuess(t, api.Chain{Last: 7, A: guesser(100), B: guesser(3000)}, 3107)
	isGuess(t, api.Chain{Last: 7, A: guesser(-100), B: guesser(3000)}, 2907)
	isGuess(t, api.Chain{Last: -7, A: guesser(100), B: guesser(-3000)}, -2907)
}

// A guess may be further from 0 than any sample, and than any guess of one line.
func TestGuessHasNoEndsOfItsOwn(t *testing.T) {
	isGuess(t, api.Chain{Last: loud, A: guesser(1)}, 131073)
	isGuess(t, api.Chain{Last: -loud, B: guesser(-1)}, -131073)
	isGuess(t, api.Chain{Last: loud, A: guesser(peak), B: guesser(peak)}, 2228224)
	isGuess(t, api.Chain{Last: -loud, A: guesser(-peak), B: guesser(-peak)}, -2228224)
	// Each line's guess is held at its end by itself, ahead of the sum.
	beyond := api.Lms{Weights: filled(top), History: filled(far)}
	below := api.Lms{Weights: filled(top), History: filled(-far)}
	isGuess(t, api.Chain{Last: 5, A: beyond, B: guesser(-3)}, peak+2)
	isGuess(t, api.Chain{Last: 5, A: guesser(3), B: below}, 8-peak)
	isGuess(t, api.Chain{Last: -9, A: beyond, B: below}, -9)
	isGuess(t, api.Chain{Last: -9, A: beyond, B: beyond}, 2*peak-9)
}

// Each line's guess is rounded down by itself: two halves are nothing, and two halves below 0 are two.
func TestGuessRoundsEachLine(t *testing.T) {
	half := api.Lms{Weights: row{1}, History: row{whole / 2}}
	halfBelow := api.Lms{Weights: row{1}, History: row{-whole / 2}}
	isGuess(t, api.Chain{Last: 4, A: half, B: half}, 4)
	isGuess(t, api.Chain{Last: 4, A: halfBelow, B: halfBelow}, 2)
	isGuess(t, api.Chain{Last: 4, A: half, B: halfBelow}, 3)
}

// Each chain is worked out by hand from the one ahead of it.
func TestLearnAFewSamples(t *testing.T) {
	c := api.Chain{}
	for _, step := range []struct {
		guess int
		x     int
		a     api.Lms
		b     api.Lms
	}{
		// There are no numbers yet: no weight goes.
		{0, 10000, api.Lms{History: row{10000}}, api.Lms{History: row{10000}}},
		// d is 20000, and A guesses nothing yet: B learns the same.
		{10000, 30000, api.Lms{Weights: row{16}, History: row{20000, 10000}}, api.Lms{Weights: row{16}, History: row{20000, 10000}}},
		// 320000 / 4096 is 78 and some, twice. d is -10000, and B learns 78 less. Had A learned first, it would be 79 more.
		{30156, 20000, api.Lms{Weights: row{0, -16}, History: row{-10000, 20000, 10000}},
			api.Lms{Weights: row{0, -16}, History: row{-10078, 20000, 10000}}},
		// -320000 / 4096 is -78 and some less, so -79, twice. d is just A's: A's weights stay, and B learns 0, which is 79 off.
		{19842, 19921, api.Lms{Weights: row{0, -16}, History: row{-79, -10000, 20000, 10000}},
			api.Lms{Weights: row{-16, 0, 16}, History: row{0, -10078, 20000, 10000}}},
		// A: 160000 / 4096 is 39 and some; B: 320000 / 4096 is 78 and some. d is -150993, and B learns 39 less.
		{20038, -loud, api.Lms{Weights: row{16, 0, -16, -16}, History: row{-150993, -79, -10000, 20000, 10000}},
			api.Lms{Weights: row{-16, 16, 0, -16}, History: row{-151032, 0, -10078, 20000, 10000}}},
		// A: -2575888 / 4096 is -629, rounded down; B: 2096512 / 4096 is 511 and some. d is 262144, and B learns 629 more.
		{-131190, loud, api.Lms{Weights: row{0, -16, -32, 0, 16}, History: row{262144, -150993, -79, -10000, 20000, 10000}},
			api.Lms{Weights: row{-32, 16, -16, 0, 16}, History: row{262773, -151032, 0, -10078, 20000, 10000}}},
	} {
		isGuess(t, c, step.guess)
		want := api.Chain{Last: step.x, A: step.a, B: step.b}
		isLearned(t, c, step.x, want)
		c = want
	}
}

// What is always alike goes by Last alone: once its first step is forgotten nothing is guessed beside it.
func TestLearnOneSampleManyTimes(t *testing.T) {
	for _, x := range []int{0, 1, -1, 1000, -1000, loud, -loud} {
		c := api.Chain{}
		for range 100 {
			c = learned(t, c, x)
			isGuess(t, c, x)
		}
		if c != (api.Chain{Last: x}) {
			t.Errorf("P15.2: %d many times: %v", x, c)
		}
	}
}

// What rises alike and little by little, or falls so, goes by A: B is left with nothing to learn.
func TestLearnRisingAndFalling(t *testing.T) {
	for _, r := range []struct{ from, by int }{{0, 4}, {0, -4}, {-1000, 12}, {1000, -12}, {-loud, 7}, {loud, -7}} {
		c, x := api.Chain{}, r.from
		for range 800 {
			c = learned(t, c, x)
			x += r.by
		}
		isGuess(t, c, x)
		if c.A.History != filled(r.by) || c.B.History != filled(0) {
			t.Errorf("P15.2: by %d: %v", r.by, c)
		}
		if a, _ := lms.Guess(c.A); a != r.by {
			t.Errorf("P15.2: by %d: A guesses %d", r.by, a)
		}
		// Then only the last sample goes on.
		want := c
		want.Last = x
		isLearned(t, c, x, want)
	}
}

// From one end to the other d is as far from 0 as may be, and B's is further by what A guessed.
func TestLearnTheFarthest(t *testing.T) {
	for _, from := range []int{loud, -loud} {
		for _, x := range []int{loud, -loud} {
			d := x - from
			isLearned(t, api.Chain{Last: from}, x, api.Chain{Last: x, A: api.Lms{History: row{d}}, B: api.Lms{History: row{d}}})
			for _, a := range []int{peak, -peak} {
				c := api.Chain{Last: from, A: guesser(a)}
				got := learned(t, c, x)
				if got.A.History != (row{d, c.A.History[0]}) || got.B != (api.Lms{History: row{d - a}}) {
					t.Errorf("P15.2: from %d to %d, where A guesses %d: %v", from, x, a, got)
				}
			}
		}
	}
	got := learned(t, api.Chain{Last: -loud, A: guesser(-peak)}, loud)
	if got.A.History[0] != 262144 || got.B.History[0] != 1310720 {
		t.Errorf("P15.2: %v", got)
	}
	got = learned(t, api.Chain{Last: loud, A: guesser(peak)}, -loud)
	if got.A.History[0] != -262144 || got.B.History[0] != -1310720 {
		t.Errorf("P15.2: %v", got)
	}
}

// Where d is just what A guesses A's weights stay, and B learns 0, whatever it guesses.
func TestLearnWhatAGuessed(t *testing.T) {
	for _, last := range []int{0, 1000, -1000} {
		for _, a := range []int{0, 500, -500, 100000, -100000} {
			isLearned(t, api.Chain{Last: last, A: guesser(a)}, last+a,
				api.Chain{Last: last + a, A: behind(guesser(a), a), B: api.Lms{}})
			for _, b := range []int{40, -40} {
				// B's guess is to one side of 0, as its number is: its weight goes down by what was too much.
				moved := behind(guesser(b), 0)
				moved.Weights[0] -= 16
				isLearned(t, api.Chain{Last: last, A: guesser(a), B: guesser(b)}, last+a,
					api.Chain{Last: last + a, A: behind(guesser(a), a), B: moved})
			}
		}
	}
}

// Where all three together guess x B's weights stay, but A's go.
func TestLearnWhatAllGuessed(t *testing.T) {
	for _, b := range []int{40, -40} {
		moved := behind(guesser(70), 70+b)
		moved.Weights[0] += 16 * b / 40
		c := api.Chain{Last: 9, A: guesser(70), B: guesser(b)}
		isGuess(t, c, 79+b)
		isLearned(t, c, 79+b, api.Chain{Last: 79 + b, A: moved, B: behind(guesser(b), b)})
	}
}

// B's number is by the guess that A had ahead of learning; what A learns changes that guess here, by its weights and by its
// numbers.
func TestBLearnsByTheGuessAhead(t *testing.T) {
	a := api.Lms{Weights: row{whole, whole}, History: row{3000, 200}}
	// A guesses 3200. d is 10000: then it would guess 10000 and 3000, and some by 16 more.
	got := learned(t, api.Chain{Last: 20000, A: a}, 30000)
	want := api.Chain{Last: 30000, A: api.Lms{Weights: row{whole + 16, whole + 16}, History: row{10000, 3000, 200}},
		B: api.Lms{History: row{6800}}}
	if got != want {
		t.Errorf("P15.2: %v; want %v", got, want)
	}
	isGuess(t, got, 30000+10039+3011)
}

// B goes by what it guessed itself, not by what all three did.
func TestBLearnsByItsOwnGuess(t *testing.T) {
	for _, c := range []struct{ x, a, b int }{
		// d is 150 and A misses it by 50: B's 50 is right, 51 is too much, 49 too little.
		{1150, 16, 0}, {1149, 16, -16}, {1151, 16, 16},
		// d is 100, which is A's guess; 99 is less.
		{1100, 0, -16}, {1099, -16, -16},
	} {
		got := learned(t, api.Chain{Last: 1000, A: guesser(100), B: guesser(50)}, c.x)
		if got.A.Weights != (row{whole + c.a}) || got.B.Weights != (row{whole + c.b}) {
			t.Errorf("P15.2: %d: %v", c.x, got)
		}
	}
}

// Last is x whatever was guessed, and whatever it was.
func TestLastIsX(t *testing.T) {
	n := numbered(3)
	for _, from := range edgeSamples {
		for _, x := range edgeSamples {
			for range 5 {
				if got := learned(t, api.Chain{Last: from, A: n.line(), B: n.line()}, x); got.Last != x {
					t.Errorf("P15.2: from %d, %d is learned: %d", from, x, got.Last)
				}
			}
		}
	}
}

func TestLearnHoldsWeightsAtTheirEnds(t *testing.T) {
	for _, c := range []struct {
		weight int
		number int
		x      int
		want   int
	}{
		{top, 1, loud, top}, {top - 5, 1, loud, top}, {top - 16, 1, loud, top}, {top - 17, 1, loud, top - 1},
		{top, -1, -loud, top}, {top, 1, -loud, top - 16}, {top, -1, loud, top - 16},
		{-top, -1, loud, -top}, {-top + 5, -1, loud, -top}, {-top + 17, -1, loud, -top + 1},
		{-top, 1, -loud, -top}, {-top, -1, -loud, -top + 16}, {-top, 1, loud, -top + 16},
	} {
		for i := range 8 {
			var l api.Lms
			l.Weights[i], l.History[i] = c.weight, c.number
			for _, from := range []api.Chain{{A: l}, {B: l}, {A: l, B: l}} {
				got := learned(t, from, c.x)
				if from.A == l && got.A.Weights[i] != c.want {
					t.Errorf("P15.2: %v learns %d: A's weight %d is %d; want %d", from, c.x, i, got.A.Weights[i], c.want)
				}
				if from.B == l && got.B.Weights[i] != c.want {
					t.Errorf("P15.2: %v learns %d: B's weight %d is %d; want %d", from, c.x, i, got.B.Weights[i], c.want)
				}
			}
		}
	}
}

func TestManyOfAllKinds(t *testing.T) {
	n := numbered(15)
	for range 20000 {
		c := api.Chain{Last: n.sample(), A: n.line(), B: n.line()}
		isGuess(t, c, plainGuess(c))
		x := n.sample()
		isLearned(t, c, x, plainLearn(c, x))
	}
}

func TestLongRows(t *testing.T) {
	n := numbered(51)
	for _, x := range []func(i int) int{
		func(i int) int { return 40*i - 60000 },
		func(i int) int { return 60000 - 40*i },
		func(i int) int { return []int{loud, -loud}[i%2] },
		func(i int) int { return []int{500, 0, -500, 0}[i%4] },
		func(i int) int { return i*i%2000 - 1000 },
		func(i int) int { return n.next(2001) - 1000 },
		func(int) int { return n.sample() },
	} {
		c := api.Chain{}
		for i := range 3000 {
			next := x(i)
			want := plainLearn(c, next)
			isLearned(t, c, next, want)
			isGuess(t, want, plainGuess(want))
			c = want
		}
	}
}

func TestWrongLast(t *testing.T) {
	for _, last := range wrongSamples {
		isNone(t, api.Chain{Last: last})
		isNone(t, api.Chain{Last: last, A: guesser(9), B: guesser(-9)})
		isNone(t, api.Chain{Last: last, A: api.Lms{Weights: row{top + 1}}})
		isNone(t, api.Chain{Last: last, B: api.Lms{History: row{7: -far - 1}}})
	}
}

func TestWrongLines(t *testing.T) {
	for i := range 8 {
		for _, from := range []api.Lms{{}, guesser(9), {Weights: filled(top), History: filled(-far)}} {
			for _, w := range wrongWeights {
				l := from
				l.Weights[i] = w
				isNoLine(t, l)
			}
			for _, x := range wrongNumbers {
				l := from
				l.History[i] = x
				isNoLine(t, l)
			}
		}
	}
}

// isNoLine: l may be neither A nor B, nor both, whatever the other and Last are.
func isNoLine(t *testing.T, l api.Lms) {
	t.Helper()
	for _, last := range []int{0, -loud, loud} {
		isNone(t, api.Chain{Last: last, A: l})
		isNone(t, api.Chain{Last: last, B: l})
		isNone(t, api.Chain{Last: last, A: l, B: l})
		isNone(t, api.Chain{Last: last, A: l, B: guesser(-77)})
		isNone(t, api.Chain{Last: last, A: guesser(77), B: l})
	}
}

func TestWrongX(t *testing.T) {
	for _, c := range []api.Chain{
		{},
		{Last: 5, A: guesser(9), B: guesser(-9)},
		{Last: loud, A: guesser(peak), B: guesser(peak)},
		{Last: -loud, A: guesser(-peak), B: guesser(-peak)},
		{Last: loud + 1},
		{A: api.Lms{Weights: row{top + 1}}},
		{B: api.Lms{History: row{far + 1}}},
	} {
		for _, x := range wrongSamples {
			isUnlearned(t, c, x)
		}
	}
}

func TestWhatIsHandedInStays(t *testing.T) {
	c := api.Chain{Last: 4, A: guesser(9), B: guesser(-90)}
	before := c
	May(c)
	Guess(c)
	got, e := Learn(c, 3)
	if e != api.OK || got.Last == c.Last || got.A == c.A || got.B == c.B || c != before {
		t.Errorf("R4: %v, %v, %d", c, got, e)
	}
}

func TestSeveralGoroutinesAtOneTime(t *testing.T) {
	var wait sync.WaitGroup
	for k := range 8 {
		wait.Go(func() {
			c := api.Chain{}
			for i := range 2000 {
				x := 1000*k - i%77
				want := plainLearn(c, x)
				isLearned(t, c, x, want)
				c = want
			}
		})
	}
	wait.Wait()
}

func filled(x int) row {
	return row{x, x, x, x, x, x, x, x}
}

// guesser is a line that guesses x by one number and takes it as it is.
func guesser(x int) api.Lms {
	return api.Lms{Weights: row{whole}, History: row{x}}
}

// behind is l with x ahead of its numbers.
func behind(l api.Lms, x int) api.Lms {
	copy(l.History[1:], l.History[:7])
	l.History[0] = x
	return l
}

// plainGuess is the chapter's Guess by its words.
func plainGuess(c api.Chain) int {
	a, _ := lms.Guess(c.A)
	b, _ := lms.Guess(c.B)
	return c.Last + a + b
}

// plainLearn is the chapter's Learn by its words.
func plainLearn(c api.Chain, x int) api.Chain {
	d := x - c.Last
	guessed, _ := lms.Guess(c.A)
	b, _ := lms.Learn(c.B, d-guessed)
	a, _ := lms.Learn(c.A, d)
	return api.Chain{Last: x, A: a, B: b}
}

func isGuess(t *testing.T, c api.Chain, want int) {
	t.Helper()
	if got, e := Guess(c); got != want || e != api.OK {
		t.Errorf("P15.1: Guess of %v: %d, %d; want %d", c, got, e, want)
	}
}

func isLearned(t *testing.T, c api.Chain, x int, want api.Chain) {
	t.Helper()
	if got := learned(t, c, x); got != want {
		t.Errorf("P15.2: Learn of %v, %d: %v; want %v", c, x, got, want)
	}
}

// learned is what c learns, where nothing is wrong.
func learned(t *testing.T, c api.Chain, x int) api.Chain {
	t.Helper()
	got, e := Learn(c, x)
	if e != api.OK || !May(got) {
		t.Errorf("P15.2: Learn of %v, %d: %v, %d", c, x, got, e)
	}
	return got
}

// isNone: neither May nor Guess takes c, nor does Learn, whatever x is.
func isNone(t *testing.T, c api.Chain) {
	t.Helper()
	if May(c) {
		t.Errorf("P15.1: %v may not be", c)
	}
	if got, e := Guess(c); got != 0 || e != api.ErrChainForm {
		t.Errorf("P15.1: Guess of %v: %d, %d; want ErrChainForm", c, got, e)
	}
	for _, x := range []int{0, 5, -5, loud, -loud, loud + 1, -loud - 1, math.MaxInt, math.MinInt} {
		isUnlearned(t, c, x)
	}
}

func isUnlearned(t *testing.T, c api.Chain, x int) {
	t.Helper()
	if got, e := Learn(c, x); got != (api.Chain{}) || e != api.ErrChainForm {
		t.Errorf("P15.2: Learn of %v, %d: %v, %d; want ErrChainForm", c, x, got, e)
	}
}
