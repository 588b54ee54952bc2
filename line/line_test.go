package line

import (
	"math"
	"slices"
	"sync"
	"testing"

	"descant/api"
	"descant/chain"
)

const (
	// loud is the end of what a sample may be.
	loud = 131072
	// far is the end of what a residual may be.
	far = 16777216
	// most is how many there may be.
	most = 256
)

var (
	// Those that may not be are beyond the ends, by one and far; of some the lowest bits alone would be fine.
	wrongSamples = []int{loud + 1, -loud - 1, loud + 2, -loud - 2, 2 * loud, -2 * loud, 1048576, -1048576, far, -far, 1<<31 - 1, 1 << 31,
		-1 << 31, 1 << 32, -1 << 32, 1<<32 + 5, 5 - 1<<32, 1 << 62, -1 << 62, 1<<62 + 5, math.MaxInt - 1, math.MaxInt, math.MinInt,
		math.MinInt + 1, math.MinInt + 5}
	wrongResiduals = []int{far + 1, -far - 1, far + 2, -far - 2, 2 * far, -2 * far, 1<<31 - 1, 1 << 31, -1 << 31, 1 << 32, -1 << 32,
		1<<32 + 5, 5 - 1<<32, 1 << 62, -1 << 62, 1<<62 + 5, math.MaxInt - 1, math.MaxInt, math.MinInt, math.MinInt + 1, math.MinInt + 5,
		math.MinInt + loud}
	wrongManies = []int{257, 258, 300, 511, 512, 513, 4096, 65536, 65537, 1 << 20}
)

// told are samples and their residuals, worked out apart from the program.
var told = []struct {
	xs []int
	rs []int
}{
	{nil, nil},
	{[]int{}, []int{}},
	// From a chain of zeros on nothing is guessed: the first residual is the first sample.
	{[]int{0}, []int{0}},
	{[]int{1}, []int{1}},
	{[]int{-1}, []int{-1}},
	{[]int{loud}, []int{loud}},
	{[]int{-loud}, []int{-loud}},
	// The second one is by the first alone: no weight has gone yet.
	{[]int{0, 7}, []int{0, 7}},
	{[]int{300, 100}, []int{300, -200}},
	{[]int{loud, -loud}, []int{loud, -2 * loud}},
	{[]int{-loud, loud}, []int{-loud, 2 * loud}},
	// 2 is one more than 1: both lines' weights are 16 then, and 16 / 4096 is nothing.
	{[]int{1, 2, 3, 4, 5}, []int{1, 1, 1, 1, 1}},
	// Below 0 that is -1, rounded down, twice: -4 is guessed where -3 stands. B learns 0 of it; then A alone guesses -1.
	{[]int{-1, -2, -3, -4, -5}, []int{-1, -1, 1, 0, 0}},
	{[]int{1, 2, 3, 2, 1, 0, -1, -2, -3}, []int{1, 1, 1, -1, 1, 0, -1, 1, 0}},
	// Guessed are 0, 10000, 30000 and 78 and 78, 20000 less 79 and 79, 19921 and 39 and 78, -131072 less 629 and 511 more.
	{[]int{10000, 30000, 20000, 19921, -loud, loud}, []int{10000, 20000, -10156, 79, -151110, 262262}},
	// The last one is guessed as loud and twice 1024: by both lines' third weight, -16, and -262144, three samples ahead.
	{[]int{loud, loud, loud, -loud, -loud, loud, loud}, []int{loud, 0, 0, -262144, 0, 262144, -2048}},
	{[]int{loud, -loud, loud, -loud, loud, -loud, loud, -loud}, []int{loud, -262144, 260096, -256008, 249900, -241804, 231764, -219836}},
	// A wave, and a saw.
	{
		[]int{0, 389, 717, 932, 1000, 909, 675, 335, -58, -443, -757, -952, -996, -883, -631, -279, 117, 494, 794, 968, 989, 855, 585, 223},
		[]int{0, 389, 328, 213, 64, -97, -230, -328, -373, -361, -287, -171, -29, 116, 214, 280, 303, 281, 218, 120, 6, -106, -177, -220},
	},
	{
		[]int{-200, 100, -1, -102, 198, 97, -4, -105, 195, 94, -7, -108, 192, 91, -10, -111, 189, 88, -13, -114, 186, 85, -16, -117},
		[]int{-200, 300, -97, -103, 298, -93, -103, -115, 301, -91, -99, -121, 296, -89, -92, -114, 278, -83, -85, -106, 259, -78, -80, -100},
	},
}

// numbered is a row of numbers, the same each time.
type numbered uint64

func (n *numbered) next(below int) int {
	*n = *n*6364136223846793005 + 1442695040888963407
	return int(uint64(*n) >> 33 % uint64(below))
}

// within is one from -end to end.
func (n *numbered) within(end int) int {
	return n.next(2*end+1) - end
}

// sound is many samples of some kind.
func (n *numbered) sound(many int) []int {
	wide := []int{1, 9, 300, 32768, loud}[n.next(5)]
	kind, step, x := n.next(4), n.next(wide)+1, 0
	xs := make([]int, many)
	for i := range xs {
		switch kind {
		case 0:
			x = n.within(wide)
		case 1:
			x += n.within(step)
		case 2:
			if x+step < -wide || x+step > wide {
				step = -step
			}
			x += step
		default:
			x = []int{wide, -wide}[n.next(2)]
		}
		x = max(-wide, min(x, wide))
		xs[i] = x
	}
	return xs
}

func TestRowsWorkedOutApart(t *testing.T) {
	for _, c := range told {
		areTold(t, c.xs, c.rs)
	}
}

func TestNoListAndAnEmptyOneAreOne(t *testing.T) {
	for _, none := range [][]int{nil, {}, make([]int, 0, 300)} {
		rs, e := Put(none)
		xs, f := Get(none)
		if len(rs) != 0 || e != api.OK || len(xs) != 0 || f != api.OK {
			t.Errorf("P16.1: of none: %v, %d; %v, %d", rs, e, xs, f)
		}
	}
}

func TestOneSample(t *testing.T) {
	for x := -600; x <= 600; x++ {
		areTold(t, []int{x}, []int{x})
	}
	for n := range 18 {
		for _, x := range []int{1<<n - 1, 1 << n, min(loud, 1<<n+1)} {
			areTold(t, []int{x}, []int{x})
			areTold(t, []int{-x}, []int{-x})
		}
	}
}

// What is always alike is guessed as it is, from the second one on.
func TestOneSampleManyTimes(t *testing.T) {
	for _, x := range []int{0, 1, -1, 77, -1000, loud - 1, loud, -loud} {
		for _, many := range []int{1, 2, 3, 9, 100, 255, 256} {
			want := make([]int, many)
			want[0] = x
			areTold(t, slices.Repeat([]int{x}, many), want)
		}
	}
}

// Behind others too it is guessed as it is, once both lines have forgotten these: first A, by eight samples, then B.
func TestOneSampleManyTimesBehindOthers(t *testing.T) {
	n := numbered(7)
	for _, x := range []int{0, 1, -1, 77, -1000, loud, -loud} {
		for range 40 {
			xs := append(n.sound(n.next(200)), slices.Repeat([]int{x}, 50)...)
			rs := comesBack(t, xs)
			if last := rs[len(rs)-33:]; slices.ContainsFunc(last, isNotNothing) {
				t.Errorf("P16.1: %d many times: %v", x, last)
			}
		}
	}
}

// What rises alike, or falls so, is guessed just so in the end.
func TestRisingAndFalling(t *testing.T) {
	for _, r := range []struct{ from, by int }{{0, 200}, {0, -200}, {-25600, 200}, {25600, -200}, {-loud, 1000}, {loud, -1000}} {
		xs := make([]int, most)
		for i := range xs {
			xs[i] = r.from + r.by*i
		}
		rs := comesBack(t, xs)
		for _, off := range rs[most-20:] {
			if off*off*100 > r.by*r.by {
				t.Errorf("P16.1: from %d by %d: %v", r.from, r.by, rs)
				break
			}
		}
	}
	for _, xs := range [][]int{
		{-3, -2, -1, 0, 1, 2, 3, 2, 1, 0, -1, -2, -3},
		{5000, 4000, 3000, 2000, 1000, 0, -1000, -2000, -3000, -2000, -1000, 0, 1000},
		{loud, loud - 1, loud - 2, loud - 1, loud},
		{-loud, 1 - loud, 2 - loud, 1 - loud, -loud},
	} {
		comesBack(t, xs)
	}
}

// The residuals of a row's beginning are the beginning of its residuals.
func TestBeginnings(t *testing.T) {
	n := numbered(19)
	for range 12 {
		xs := n.sound(60)
		rs := comesBack(t, xs)
		for many := range xs {
			areTold(t, xs[:many], rs[:many])
		}
	}
}

// Each call begins with a chain of zeros: nothing is kept of the one ahead.
func TestNothingIsKept(t *testing.T) {
	n := numbered(20)
	for range 20 {
		Put(n.sound(most))
		Get(n.sound(most))
		Put([]int{5, 900, loud + 1})
		Get([]int{5, 900, far})
		for _, c := range told {
			areTold(t, c.xs, c.rs)
		}
	}
}

func TestRowsOfAllKinds(t *testing.T) {
	n := numbered(16)
	for range 1500 {
		comesBack(t, n.sound(n.next(80)))
	}
	for _, many := range []int{254, 255, 256} {
		for range 40 {
			comesBack(t, n.sound(many))
		}
	}
}

// Residuals that are got and put are the same residuals: each is drawn so that its sample may be.
func TestResidualsOfAllKinds(t *testing.T) {
	n := numbered(61)
	for range 1500 {
		var rs, xs []int
		var c api.Chain
		for range []int{n.next(60), most}[n.next(20)/19] {
			g := guess(c)
			r := max(-loud-g, min(loud-g, n.within([]int{0, 3, 5000, far}[n.next(4)])))
			rs, xs = append(rs, r), append(xs, g+r)
			c = learned(t, c, g+r)
		}
		areTold(t, xs, rs)
	}
}

func TestBothEndsInTurnAndAlike(t *testing.T) {
	for many := range most + 1 {
		for _, xs := range [][]int{
			slices.Repeat([]int{loud, -loud}, 128)[:many],
			slices.Repeat([]int{-loud, loud}, 128)[:many],
			slices.Repeat([]int{loud, loud, -loud, -loud}, 64)[:many],
			slices.Repeat([]int{loud, 0, -loud, 0}, 64)[:many],
			slices.Repeat([]int{loud}, many),
			slices.Repeat([]int{-loud}, many),
		} {
			comesBack(t, xs)
		}
	}
}

// Each sample stands at the end that is the farther from its guess, once a row has taught both lines great weights.
func TestResidualsAsFarFrom0AsMayBe(t *testing.T) {
	greatest := 0
	for _, turn := range []int{1, -1} {
		for _, taught := range []int{0, 100, 241, 250} {
			xs := slices.Repeat([]int{-loud, -loud, loud, loud, -loud, loud}, 50)[:taught]
			var c api.Chain
			for i := range xs {
				xs[i] *= turn
				c = learned(t, c, xs[i])
			}
			for len(xs) < most {
				x := loud
				if guess(c) >= 0 {
					x = -loud
				}
				xs = append(xs, x)
				c = learned(t, c, x)
			}
			rs := comesBack(t, xs)
			greatest = max(greatest, slices.Max(rs), -slices.Min(rs))
		}
	}
	if greatest < 800000 {
		t.Errorf("P16.1: a residual was to be far from 0: %d", greatest)
	}
}

// A residual may bring a sample just to either end, but no further, at each place.
func TestResidualsThatBringASampleToItsEnds(t *testing.T) {
	n := numbered(33)
	for range 60 {
		xs := n.sound([]int{0, 1, 2, 17, 100, 254, 255}[n.next(7)])
		rs := comesBack(t, xs)
		g := guess(after(t, xs))
		for _, end := range []int{loud, -loud} {
			areTold(t, append(slices.Clone(xs), end), append(slices.Clone(rs), end-g))
		}
		for _, beyond := range []int{1, 2, 1000, loud, 2 * loud, 10000000} {
			getRefuses(t, append(slices.Clone(rs), loud-g+beyond))
			getRefuses(t, append(slices.Clone(rs), -loud-g-beyond))
		}
	}
}

// No guess is so far from 0 that such a residual has a sample.
func TestResidualsAtTheirEnds(t *testing.T) {
	n := numbered(34)
	for _, many := range []int{1, 2, 3, 40, 255, 256} {
		rs := comesBack(t, n.sound(many))
		for _, place := range places(many) {
			for _, x := range []int{far, -far, far - 1, 1 - far} {
				getRefuses(t, changed(rs, place, x))
			}
		}
	}
}

func TestPutRefusesSamplesBeyondTheEnds(t *testing.T) {
	n := numbered(35)
	for _, many := range []int{1, 2, 3, 5, 255, 256} {
		for _, xs := range [][]int{n.sound(many), make([]int, many), slices.Repeat([]int{loud}, many), slices.Repeat([]int{-loud}, many)} {
			for _, place := range places(many) {
				for _, x := range wrongSamples {
					putRefuses(t, changed(xs, place, x))
				}
			}
		}
	}
	for place := range most {
		putRefuses(t, changed(make([]int, most), place, loud+1))
		putRefuses(t, changed(make([]int, most), place, -loud-1))
	}
}

func TestPutRefusesTooMany(t *testing.T) {
	for _, many := range wrongManies {
		putRefuses(t, make([]int, many))
		putRefuses(t, slices.Repeat([]int{loud}, many))
	}
}

func TestPutRefusesTwoWrongThings(t *testing.T) {
	for _, x := range wrongSamples {
		putRefuses(t, []int{x, 0, -x})
		putRefuses(t, slices.Repeat([]int{x}, most))
		for _, place := range places(most + 1) {
			putRefuses(t, changed(make([]int, most+1), place, x))
		}
	}
}

func TestGetRefusesResidualsBeyondTheEnds(t *testing.T) {
	n := numbered(36)
	for _, many := range []int{1, 2, 3, 5, 255, 256} {
		rs := comesBack(t, n.sound(many))
		for _, place := range places(many) {
			for _, x := range wrongResiduals {
				getRefuses(t, changed(rs, place, x))
				getRefuses(t, changed(make([]int, many), place, x))
			}
		}
	}
}

// Such residuals may be, but none of such samples, at the first place as at others.
func TestGetRefusesSamplesBeyondTheEnds(t *testing.T) {
	for _, beyond := range []int{loud + 1, -loud - 1, loud + 2, 2 * loud, -2 * loud, 4194304, -4194304, far, -far} {
		for _, many := range []int{1, 2, 3, 100, 256} {
			for _, place := range places(many) {
				// Ahead of it all is 0, and so is the guess.
				getRefuses(t, changed(make([]int, many), place, beyond))
			}
		}
	}
	// Two that may be, and both samples but the sum.
	getRefuses(t, []int{loud, 1})
	getRefuses(t, []int{-loud, -1})
	getRefuses(t, []int{1, loud})
	getRefuses(t, []int{-1, -loud})
	getRefuses(t, []int{loud, 0, 0, 1})
	getRefuses(t, slices.Repeat([]int{1000}, most))
	getRefuses(t, slices.Repeat([]int{-1000}, most))
}

func TestGetRefusesTooMany(t *testing.T) {
	for _, many := range wrongManies {
		getRefuses(t, make([]int, many))
		getRefuses(t, changed(make([]int, many), 0, loud))
	}
}

func TestGetRefusesTwoWrongThings(t *testing.T) {
	for _, x := range wrongResiduals {
		getRefuses(t, []int{x, 0, -x})
		getRefuses(t, []int{loud + 1, x})
		getRefuses(t, []int{x, loud + 1})
		getRefuses(t, slices.Repeat([]int{x}, most))
		for _, place := range places(most + 1) {
			getRefuses(t, changed(make([]int, most+1), place, x))
		}
	}
	getRefuses(t, slices.Repeat([]int{loud + 1}, most+1))
}

func TestWhatIsHandedInStays(t *testing.T) {
	n := numbered(37)
	for _, many := range []int{0, 1, 5, 100, 256} {
		xs := n.sound(many)
		stays(t, Put, xs, api.OK)
		stays(t, Get, comesBack(t, xs), api.OK)
		if many > 0 {
			stays(t, Put, changed(xs, many/2, loud+1), api.ErrLineForm)
			stays(t, Get, changed(xs, many/2, far), api.ErrLineForm)
			stays(t, Get, changed(xs, many/2, far+1), api.ErrLineForm)
		}
	}
	stays(t, Put, make([]int, most+1), api.ErrLineForm)
	stays(t, Get, make([]int, most+1), api.ErrLineForm)
}

// stays: of a list within another neither is changed, whatever is answered, nor when that is written to.
func stays(t *testing.T, call func([]int) ([]int, api.Errno), in []int, want api.Errno) {
	t.Helper()
	about := []int{1, -2, 3}
	whole := slices.Concat(about, in, about)
	old := slices.Clone(whole)
	got, e := call(whole[3 : 3+len(in)])
	if e != want || !slices.Equal(whole, old) {
		t.Errorf("R4: of %d numbers, %d: the list was changed, or what is about it", len(in), e)
	}
	got = got[:cap(got)]
	for i := range got {
		got[i]++
	}
	if !slices.Equal(whole, old) {
		t.Errorf("R4: of %d numbers: what is answered is a part of the list", len(in))
	}
}

func TestWhatIsAnsweredIsTheCallersOwn(t *testing.T) {
	n := numbered(38)
	xs := n.sound(80)
	rs := comesBack(t, xs)
	for _, c := range []struct {
		call func([]int) ([]int, api.Errno)
		in   []int
		want []int
	}{{Put, xs, rs}, {Get, rs, xs}} {
		in := slices.Clone(c.in)
		one, _ := c.call(in)
		two, _ := c.call(in)
		for i := range one {
			one[i] = -9
		}
		if three, _ := c.call(in); !slices.Equal(in, c.in) || !slices.Equal(two, c.want) || !slices.Equal(three, c.want) {
			t.Errorf("R4: an answer was written to: %v, %v; want %v", two, three, c.want)
		}
		for i := range in {
			in[i] = 9
		}
		if !slices.Equal(two, c.want) {
			t.Errorf("R4: what was handed in was written to: %v; want %v", two, c.want)
		}
	}
}

func TestCallsAtOneTime(t *testing.T) {
	var group sync.WaitGroup
	for worker := range 8 {
		group.Go(func() {
			n := numbered(worker % 2)
			for range 40 {
				comesBack(t, n.sound(100))
			}
		})
	}
	group.Wait()
}

// guess is what a chain that may be guesses.
func guess(c api.Chain) int {
	g, _ := chain.Guess(c)
	return g
}

// learned is c once x came.
func learned(t *testing.T, c api.Chain, x int) api.Chain {
	t.Helper()
	next, e := chain.Learn(c, x)
	if e != api.OK {
		t.Fatalf("chain.Learn of %d: %d", x, e)
	}
	return next
}

// after is a chain of zeros that learned xs.
func after(t *testing.T, xs []int) api.Chain {
	t.Helper()
	var c api.Chain
	for _, x := range xs {
		c = learned(t, c, x)
	}
	return c
}

// plain tells the residuals by the chapter's words.
func plain(t *testing.T, xs []int) []int {
	t.Helper()
	var c api.Chain
	var rs []int
	for _, x := range xs {
		rs = append(rs, x-guess(c))
		c = learned(t, c, x)
	}
	return rs
}

// comesBack: the residuals are the plain ones, and the samples come back from them.
func comesBack(t *testing.T, xs []int) []int {
	t.Helper()
	rs := plain(t, xs)
	areTold(t, xs, rs)
	return rs
}

func areTold(t *testing.T, xs []int, rs []int) {
	t.Helper()
	if got, e := Put(xs); !slices.Equal(got, rs) || e != api.OK {
		t.Errorf("P16.1: Put of %v: %v, %d; want %v", xs, got, e, rs)
	}
	if got, e := Get(rs); !slices.Equal(got, xs) || e != api.OK {
		t.Errorf("P16.1: Get of %v: %v, %d; want %v", rs, got, e, xs)
	}
}

func putRefuses(t *testing.T, xs []int) {
	t.Helper()
	if rs, e := Put(xs); len(rs) != 0 || e != api.ErrLineForm {
		t.Errorf("P16.1: Put of %d samples: %v, %d; want ErrLineForm", len(xs), rs, e)
	}
}

func getRefuses(t *testing.T, rs []int) {
	t.Helper()
	if xs, e := Get(rs); len(xs) != 0 || e != api.ErrLineForm {
		t.Errorf("P16.1: Get of %d residuals: %v, %d; want ErrLineForm", len(rs), xs, e)
	}
}

// places are the first, a middle and the last.
func places(many int) []int {
	return slices.Compact([]int{0, many / 2, many - 1})
}

// changed is a list that has x there.
func changed(xs []int, place int, x int) []int {
	out := slices.Clone(xs)
	out[place] = x
	return out
}

func isNotNothing(x int) bool {
	return x != 0
}
