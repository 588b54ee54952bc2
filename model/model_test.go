package model

import (
	"math"
	"sync"
	"testing"

	"descant/api"
	"descant/coder"
	"descant/count"
	"descant/decoder"
	"descant/mix"
	"descant/stretch"
)

const top = api.MaxWeight

var (
	// edgePlaces are those at the ends of a row, the middle and beside them.
	edgePlaces   = []int{0, 1, 31, 32, 62, 63}
	edgeCounters = []int{0, 1, 15, 16, 32767, 32768, 65519, 65520, 65534, 65535}

	// Those that may not be are beyond the ends, by one and far; of some the lowest bits alone would be fine.
	wrongPlaces = []int{-1, -2, -63, -64, 64, 65, 127, 128, 192, 256, 65536, 1<<31 - 1, 1 << 31, 1 << 32, 1<<32 + 5, -1 << 32,
		1 << 62, -1 << 62, math.MaxInt, math.MinInt, math.MinInt + 1}
	wrongCounters = []int{-1, -2, -32768, -65536, 65536, 65537, 131071, 1<<31 - 1, 1 << 31, 1 << 32, 1<<32 + 32768, -1 << 32,
		1 << 62, -1 << 62, math.MaxInt, math.MinInt, math.MinInt + 1}
	wrongWeights = []int{1048577, -1048577, 1048578, -1048578, 2097152, -2097152, 1<<31 - 1, 1 << 31, 1 << 32, 1<<32 + 22000,
		-1 << 32, 1 << 62, -1 << 62, math.MaxInt, math.MinInt, math.MinInt + 1}
	wrongBits = []int{-1, -2, 2, 3, 255, 256, 257, 4096, 1 << 32, 1<<32 + 1, -1 << 32, math.MaxInt, math.MinInt, math.MinInt + 1}
)

// numbers is a row of them, the same each time.
type numbers uint64

func (n *numbers) next(below int) int {
	*n = *n*6364136223846793005 + 1442695040888963407
	return int(uint64(*n) >> 33 % uint64(below))
}

func TestNew(t *testing.T) {
	m := New()
	for row := range 3 {
		for i := range 64 {
			if m.Counts[row][i] != 32768 {
				t.Errorf("P9.1: counter %d of row %d: %d", i, row, m.Counts[row][i])
			}
		}
	}
	if m.Weights != [3]int{22000, 22000, 22000} {
		t.Errorf("P9.1: %v", m.Weights)
	}
	if !May(m) {
		t.Error("P9.1: a new model may be")
	}
}

// Two new models share nothing.
func TestNewEachTime(t *testing.T) {
	m := New()
	m.Counts[0][0], m.Counts[2][63], m.Weights[1] = 0, 0, 0
	if m = New(); m != filled(32768, 22000) {
		t.Errorf("R4: %v", m)
	}
}

// The chances are worked out by hand; the chance of each counter, what it is stretched to, and Squash's values are those
// of chapters 6 and 7.
func TestPWorkedOutByHand(t *testing.T) {
	for _, c := range []struct {
		name    string
		counts  [3]int
		weights [3]int
		want    int
	}{
		// 32768 tells 2048, which is stretched to 1; three times 22000 is 66000, which is 1 and some: its chance is 2051.
		{"new", [3]int{32768, 32768, 32768}, [3]int{22000, 22000, 22000}, 2051},
		// 34815 tells 2175, which is stretched to 33; 2178000 is 33 and some.
		{"learned a 1", [3]int{34815, 34815, 34815}, [3]int{22000, 22000, 22000}, 2176},
		// 0 tells 1, which is stretched to -2047; 65535 tells 4095, which is stretched to 2047. A weight of 65536 takes its
		// row as it is, whichever of the three it is.
		{"first 0", [3]int{0, 65535, 65535}, [3]int{65536, 0, 0}, 1},
		{"second 0", [3]int{65535, 0, 65535}, [3]int{0, 65536, 0}, 1},
		{"third 0", [3]int{65535, 65535, 0}, [3]int{0, 0, 65536}, 1},
		{"first 65535", [3]int{65535, 0, 0}, [3]int{65536, 0, 0}, 4094},
		{"second 65535", [3]int{0, 65535, 0}, [3]int{0, 65536, 0}, 4094},
		{"third 65535", [3]int{0, 0, 65535}, [3]int{0, 0, 65536}, 4094},
		{"all 0", [3]int{0, 0, 0}, [3]int{top, top, top}, 1},
		{"all 65535", [3]int{65535, 65535, 65535}, [3]int{top, top, top}, 4095},
		{"all 0, turned", [3]int{0, 0, 0}, [3]int{-top, -top, -top}, 4095},
		{"all 65535, turned", [3]int{65535, 65535, 65535}, [3]int{-top, -top, -top}, 1},
		// What is against each other goes: 1 by 65536 is left, which has 2051, or by -65536, which has 2043.
		{"against each other", [3]int{65535, 0, 32768}, [3]int{top, top, 65536}, 2051},
		{"against each other, turned", [3]int{65535, 0, 32768}, [3]int{top, top, -65536}, 2043},
		{"no weights", [3]int{65535, 65535, 65535}, [3]int{}, 2047},
	} {
		m, ctx := New(), [3]int{5, 0, 63}
		m.Weights = c.weights
		for row, i := range ctx {
			m.Counts[row][i] = c.counts[row]
		}
		if got, e := P(m, ctx); got != c.want || e != api.OK {
			t.Errorf("P9.2: %s: %d, %d; want %d", c.name, got, e, c.want)
		}
	}
}

// What is learned is worked out by hand.
func TestLearnWorkedOutByHand(t *testing.T) {
	for _, c := range []struct {
		name        string
		counts      [3]int
		weights     [3]int
		bit         int
		nextCounts  [3]int
		nextWeights [3]int
	}{
		// The chance is 2051: off is 2045, or -2051. 2557 / 1024 is 2 and some, -1539 / 1024 is -1 and some.
		{"new, 1", [3]int{32768, 32768, 32768}, [3]int{22000, 22000, 22000}, 1,
			[3]int{34815, 34815, 34815}, [3]int{22002, 22002, 22002}},
		{"new, 0", [3]int{32768, 32768, 32768}, [3]int{22000, 22000, 22000}, 0,
			[3]int{30720, 30720, 30720}, [3]int{21998, 21998, 21998}},
		// The inputs are -2047, 2047 and 1, the chance is 2047: off is 2049, or -2047. -4193791 / 1024 is -4095 and some,
		// 4194815 / 1024 is 4096 and some, 2561 / 1024 is 2 and some.
		{"no weights, 1", [3]int{0, 65535, 32768}, [3]int{}, 1, [3]int{4095, 65535, 34815}, [3]int{-4096, 4096, 2}},
		// 4190721 / 1024 is 4092 and some, -4189697 / 1024 is -4091 and some, -1535 / 1024 is -1 and some.
		{"no weights, 0", [3]int{0, 65535, 32768}, [3]int{}, 0, [3]int{0, 61440, 30720}, [3]int{4092, -4092, -2}},
		// The chance is 1: off is 4095, or -1. -8381953 / 1024 is -8185 and some; 2559 / 1024 is 2 and some, which goes beyond
		// the end.
		{"wrong with all weight", [3]int{0, 0, 0}, [3]int{top, top, top}, 1,
			[3]int{4095, 4095, 4095}, [3]int{top - 8186, top - 8186, top - 8186}},
		{"right with all weight", [3]int{0, 0, 0}, [3]int{top, top, top}, 0, [3]int{0, 0, 0}, [3]int{top, top, top}},
		// The chance is 1 again, of inputs above 0: 8382977 / 1024 is 8186 and some, -1535 / 1024 is -1 and some.
		{"wrong, turned", [3]int{65535, 65535, 65535}, [3]int{-top, -top, -top}, 1,
			[3]int{65535, 65535, 65535}, [3]int{-top + 8186, -top + 8186, -top + 8186}},
		{"right, turned", [3]int{65535, 65535, 65535}, [3]int{-top, -top, -top}, 0,
			[3]int{61440, 61440, 61440}, [3]int{-top, -top, -top}},
	} {
		m, ctx := New(), [3]int{63, 5, 0}
		m.Weights = c.weights
		want := m
		want.Weights = c.nextWeights
		for row, i := range ctx {
			m.Counts[row][i], want.Counts[row][i] = c.counts[row], c.nextCounts[row]
		}
		if got, e := Learn(m, ctx, c.bit); got != want || e != api.OK {
			t.Errorf("P9.3: %s: %v, %v, %d; want %v, %v", c.name, asked(got, ctx), got.Weights, e, c.nextCounts, c.nextWeights)
		}
	}
}

// Each counter of a row is another one, so that no other than the one asked for is taken for it.
func TestEveryPlaceOfEveryRow(t *testing.T) {
	m := mixed()
	for row := range 3 {
		for i := range 64 {
			ctx := [3]int{7, 40, 23}
			ctx[row] = i
			isAsTold(t, m, ctx)
		}
	}
}

func TestEdgesWithEachOther(t *testing.T) {
	m := mixed()
	for _, a := range edgePlaces {
		for _, b := range edgePlaces {
			for _, c := range edgePlaces {
				isAsTold(t, m, [3]int{a, b, c})
			}
		}
	}
	for row := range 3 {
		for _, c := range edgeCounters {
			for _, w := range []int{-top, -top + 1, -22000, 0, 65536, top - 1, top} {
				for _, i := range edgePlaces {
					m := mixed()
					m.Counts[row][i], m.Weights[row] = c, w
					ctx := [3]int{63, 0, 63}
					ctx[row] = i
					isAsTold(t, m, ctx)
				}
			}
		}
	}
}

// The model is told long rows of bits, some likely, some not, in many contexts; each time it is as the chapter has it.
func TestLongRowsOfBits(t *testing.T) {
	n := numbers(9)
	m := New()
	lowest, highest := 4095, 0
	for i := range 30000 {
		ctx := [3]int{n.next(64), n.next(8), n.next(2) * 63}
		bit := 0
		if n.next(100) < []int{50, 99, 1, 20}[i/2000%4] {
			bit = 1
		}
		p, e := P(m, ctx)
		if want := plainP(m, ctx); p != want || e != api.OK {
			t.Fatalf("P9.2: bit %d: %d, %d; want %d", i, p, e, want)
		}
		lowest, highest = min(lowest, p), max(highest, p)
		next, e := Learn(m, ctx, bit)
		if want := plainLearn(m, ctx, bit); next != want || e != api.OK || !May(next) {
			t.Fatalf("P9.3: bit %d: %v, %v, %d; want %v, %v", i, asked(next, ctx), next.Weights, e, asked(want, ctx), want.Weights)
		}
		m = next
	}
	if lowest > 40 || highest < 4055 {
		t.Errorf("P9.2: chances from %d to %d: likely bits and unlikely ones were to be met", lowest, highest)
	}
}

func TestManyModels(t *testing.T) {
	n := numbers(27)
	for range 3000 {
		var m api.Model
		reach := []int{70000, top}[n.next(2)]
		for row := range 3 {
			m.Weights[row] = n.next(2*reach+1) - reach
			for i := range 64 {
				m.Counts[row][i] = []int{0, 65535, n.next(65536), n.next(65536)}[n.next(4)]
			}
		}
		isAsTold(t, m, [3]int{n.next(64), n.next(64), n.next(64)})
	}
}

// One bit in one context moves three counters and the weights, all else stays.
func TestAllOtherCountersStay(t *testing.T) {
	m := mixed()
	for i := range 64 {
		for bit := range 2 {
			ctx := [3]int{i, 63 - i, (i + 17) % 64}
			got, e := Learn(m, ctx, bit)
			if e != api.OK {
				t.Fatalf("P9.3: %v: %d", ctx, e)
			}
			for row := range 3 {
				for j := range 64 {
					if j != ctx[row] && got.Counts[row][j] != m.Counts[row][j] {
						t.Errorf("P9.3: %v: counter %d of row %d is %d; it was %d", ctx, j, row, got.Counts[row][j], m.Counts[row][j])
					}
				}
			}
		}
	}
}

// Where one bit always follows, the chance comes near to it; in a context that was never met it stays near the half.
func TestLearnLeadsToTheBit(t *testing.T) {
	for bit, far := range []int{30, 4065} {
		m, ctx := New(), [3]int{0, 31, 63}
		for range 500 {
			m, _ = Learn(m, ctx, bit)
		}
		p, e := P(m, ctx)
		if e != api.OK || bit == 1 && p < far || bit == 0 && p > far {
			t.Errorf("P9.3: behind many bits of %d: %d, %d", bit, p, e)
		}
		if p, e := P(m, [3]int{1, 30, 62}); e != api.OK || p < 2000 || p > 2100 {
			t.Errorf("P9.3: behind many bits of %d, elsewhere: %d, %d", bit, p, e)
		}
	}
}

func TestWrongPlaces(t *testing.T) {
	for row := range 3 {
		for _, i := range wrongPlaces {
			for _, ctx := range [][3]int{{}, {63, 63, 63}, {5, 40, 0}} {
				ctx[row] = i
				isNone(t, New(), ctx)
				isNone(t, mixed(), ctx)
				ctx[(row+1)%3] = -i
				isNone(t, New(), ctx)
			}
		}
	}
	for _, i := range wrongPlaces {
		isNone(t, New(), [3]int{i, i, i})
	}
}

// A counter may not be wherever it stands, asked for or not.
func TestWrongCounters(t *testing.T) {
	for row := range 3 {
		for i := range 64 {
			for _, c := range wrongCounters {
				m := New()
				m.Counts[row][i] = c
				if May(m) {
					t.Errorf("P9.1: counter %d of row %d is %d", i, row, c)
				}
				ctx := [3]int{20, 20, 20}
				isNone(t, m, ctx)
				ctx[row] = i
				isNone(t, m, ctx)
			}
		}
	}
}

func TestWrongWeights(t *testing.T) {
	for i := range 3 {
		for _, w := range wrongWeights {
			for _, m := range []api.Model{New(), mixed(), {}} {
				m.Weights[i] = w
				if May(m) {
					t.Errorf("P9.1: weight %d is %d", i, w)
				}
				isNone(t, m, [3]int{0, 63, 9})
				m.Weights[(i+1)%3] = -w
				isNone(t, m, [3]int{0, 63, 9})
			}
		}
	}
}

func TestEndsThatMayBe(t *testing.T) {
	for _, c := range edgeCounters {
		for _, w := range []int{-top, 0, top} {
			if !May(filled(c, w)) {
				t.Errorf("P9.1: counters of %d and weights of %d may be", c, w)
			}
			isAsTold(t, filled(c, w), [3]int{0, 63, 0})
		}
	}
	for row := range 3 {
		for _, i := range edgePlaces {
			for _, c := range edgeCounters {
				m := New()
				m.Counts[row][i], m.Weights[row] = c, top
				if !May(m) {
					t.Errorf("P9.1: a counter of %d and a weight of %d may be", c, top)
				}
			}
		}
	}
}

func TestWrongBits(t *testing.T) {
	wrong := New()
	wrong.Counts[1][1] = 65536
	for _, bit := range wrongBits {
		for _, m := range []api.Model{New(), mixed(), {}, wrong} {
			for _, ctx := range [][3]int{{}, {63, 63, 63}, {5, 40, 0}, {0, 64, 0}} {
				if got, e := Learn(m, ctx, bit); got != (api.Model{}) || e != api.ErrModelForm {
					t.Errorf("P9.3: %v, %d: %d; want ErrModelForm and no model", ctx, bit, e)
				}
			}
		}
	}
}

func TestWhatIsHandedInStays(t *testing.T) {
	m, ctx := mixed(), [3]int{3, 33, 63}
	if _, e := P(m, ctx); e != api.OK {
		t.Fatal(e)
	}
	for bit := range 2 {
		got, e := Learn(m, ctx, bit)
		if e != api.OK || got == m {
			t.Fatalf("P9.3: %v, %d: %d; want another model", ctx, bit, e)
		}
		got.Counts[0][0], got.Weights[0] = -1, -1
	}
	if m != mixed() || ctx != [3]int{3, 33, 63} {
		t.Errorf("R4: %v, %v", m, ctx)
	}
}

// T1: a coder and its decoder whose models learn the same bits come by the same chances.
func TestBitsComeBack(t *testing.T) {
	n := numbers(1)
	bits := make([]int, 4000)
	for i := range bits {
		if n.next(100) < 5 {
			bits[i] = 1
		}
	}
	c, m := coder.New(), New()
	for i, bit := range bits {
		p, e := P(m, behind(bits[:i]))
		next, f := coder.Bit(c, bit, p)
		if e != api.OK || f != api.OK {
			t.Fatalf("T1: bit %d by %d: %d, %d", i, p, e, f)
		}
		c = next
		m, _ = Learn(m, behind(bits[:i]), bit)
	}
	s, _ := coder.End(c)
	if len(s) > 200 {
		t.Errorf("4000 bits of which one in twenty is 1 take %d bytes; 500 were to become 200", len(s))
	}
	d, _ := decoder.New(s)
	m = New()
	found := make([]int, 0, len(bits))
	for i := range bits {
		ctx := behind(found)
		p, _ := P(m, ctx)
		next, bit, e := decoder.Bit(d, p)
		if e != api.OK || bit != bits[i] {
			t.Fatalf("T1: bit %d: %d, %d; want %d", i, bit, e, bits[i])
		}
		found, d = append(found, bit), next
		m, _ = Learn(m, ctx, bit)
	}
}

func TestSeveralGoroutinesAtOneTime(t *testing.T) {
	m := mixed()
	var wait sync.WaitGroup
	for k := range 8 {
		wait.Go(func() {
			for i := range 500 {
				isAsTold(t, m, [3]int{i % 64, (i + 8*k) % 64, (k * i) % 64})
				if !May(New()) {
					t.Error("R5: a new model may be")
				}
			}
		})
	}
	wait.Wait()
}

// behind is a context by the last bits: the last six, the last three, none.
func behind(bits []int) [3]int {
	six := 0
	for _, bit := range bits[max(0, len(bits)-6):] {
		six = 2*six + bit
	}
	return [3]int{six, six % 8, 0}
}

// plainP is the chapter's P by its words.
func plainP(m api.Model, ctx [3]int) int {
	p, _ := mix.Dot(m.Weights, plainInputs(m, ctx))
	return p
}

// plainLearn is the chapter's Learn by its words.
func plainLearn(m api.Model, ctx [3]int, bit int) api.Model {
	var out api.Model
	for row := range 3 {
		for i := range 64 {
			out.Counts[row][i] = m.Counts[row][i]
			if i == ctx[row] {
				out.Counts[row][i], _ = count.Next(m.Counts[row][i], bit)
			}
		}
	}
	out.Weights, _ = mix.Train(m.Weights, plainInputs(m, ctx), bit)
	return out
}

func plainInputs(m api.Model, ctx [3]int) [3]int {
	first, _ := count.P(m.Counts[0][ctx[0]])
	second, _ := count.P(m.Counts[1][ctx[1]])
	third, _ := count.P(m.Counts[2][ctx[2]])
	var xs [3]int
	xs[0], _ = stretch.Stretch(first)
	xs[1], _ = stretch.Stretch(second)
	xs[2], _ = stretch.Stretch(third)
	return xs
}

// mixed is a model no two of whose counters, and no two of whose weights, are the same.
func mixed() api.Model {
	m := api.Model{Weights: [3]int{41000, -9000, 22500}}
	for row := range 3 {
		for i := range 64 {
			m.Counts[row][i] = 300 + 337*((row*64+i)*55%192)
		}
	}
	return m
}

func filled(c int, w int) api.Model {
	m := api.Model{Weights: [3]int{w, w, w}}
	for row := range 3 {
		for i := range 64 {
			m.Counts[row][i] = c
		}
	}
	return m
}

// asked is the counters that a context asks for.
func asked(m api.Model, ctx [3]int) [3]int {
	return [3]int{m.Counts[0][ctx[0]], m.Counts[1][ctx[1]], m.Counts[2][ctx[2]]}
}

func isAsTold(t *testing.T, m api.Model, ctx [3]int) {
	t.Helper()
	if !May(m) {
		t.Errorf("P9.1: %v may be", m)
	}
	if got, e := P(m, ctx); got != plainP(m, ctx) || e != api.OK {
		t.Errorf("P9.2: %v, %v: %d, %d; want %d", asked(m, ctx), ctx, got, e, plainP(m, ctx))
	}
	for bit := range 2 {
		if got, e := Learn(m, ctx, bit); got != plainLearn(m, ctx, bit) || e != api.OK {
			t.Errorf("P9.3: %v, %v, %d: %v, %v, %d", asked(m, ctx), ctx, bit, asked(got, ctx), got.Weights, e)
		}
	}
}

func isNone(t *testing.T, m api.Model, ctx [3]int) {
	t.Helper()
	if got, e := P(m, ctx); got != 0 || e != api.ErrModelForm {
		t.Errorf("P9.2: P of %v, %v: %d, %d; want ErrModelForm", m, ctx, got, e)
	}
	for bit := range 2 {
		if got, e := Learn(m, ctx, bit); got != (api.Model{}) || e != api.ErrModelForm {
			t.Errorf("P9.3: Learn of %v, %v, %d: %v, %d; want ErrModelForm", m, ctx, bit, got, e)
		}
	}
}
