package shift

import (
	"math"
	"slices"
	"sync"
	"testing"

	"descant/api"
)

const (
	// loud is the end of what a sample may be.
	loud = 131072
	// far is how many bits may go.
	far = 15
)

type call func(xs []int, by int) ([]int, api.Errno)

var (
	// Those that may not be are beyond the ends, by one and far; of some the lowest bits alone would be fine.
	wrongSamples = []int{loud + 1, -loud - 1, loud + 2, -loud - 2, 2 * loud, -2 * loud, 32768 * loud, -32768 * loud, 1<<31 - 1, 1 << 31,
		-1 << 31, 1 << 32, -1 << 32, 1<<32 + 5, 5 - 1<<32, 1<<32 + 32768, 1 << 49, -1 << 49, 1 << 61, 1 << 62, -1 << 62, 1<<62 + 5,
		math.MaxInt - loud, math.MaxInt - 1, math.MaxInt, math.MinInt, math.MinInt + 1, math.MinInt + 5, math.MinInt + loud}
	wrongBys = []int{-1, -2, -15, -16, -17, -63, -64, -65, -256, 16, 17, 18, 31, 32, 33, 47, 48, 62, 63, 64, 65, 79, 255, 256, 257, 271,
		65536, 65537, 1<<31 - 1, 1 << 31, -1 << 31, 1 << 32, 1<<32 + 1, -1 << 32, 1 - 1<<32, 1 << 62, math.MaxInt - 1, math.MaxInt,
		math.MinInt, math.MinInt + 1, math.MinInt + 15}
	// ends are those that may be, and those beside them and in the middle.
	ends = []int{-loud, 1 - loud, 2 - loud, -loud / 2, -loud/2 - 1, 1 - loud/2, -2, -1, 0, 1, 2, loud/2 - 1, loud / 2, loud/2 + 1,
		loud - 2, loud - 1, loud}
)

// told are samples, what they waste, and what is told of them without that, worked out by hand.
var told = []struct {
	xs   []int
	by   int
	down []int
}{
	// No sample, and all 0.
	{nil, 0, nil},
	{[]int{}, 0, []int{}},
	{[]int{0}, 0, []int{0}},
	{[]int{0, 0, 0}, 0, []int{0, 0, 0}},
	// One, on either side of 0.
	{[]int{1}, 0, []int{1}},
	{[]int{-1}, 0, []int{-1}},
	{[]int{2}, 1, []int{1}},
	{[]int{-2}, 1, []int{-1}},
	{[]int{3}, 0, []int{3}},
	{[]int{-3}, 0, []int{-3}},
	{[]int{6}, 1, []int{3}},
	{[]int{-6}, 1, []int{-3}},
	{[]int{12}, 2, []int{3}},
	{[]int{-12}, 2, []int{-3}},
	{[]int{40}, 3, []int{5}},
	{[]int{-40}, 3, []int{-5}},
	{[]int{256}, 8, []int{1}},
	{[]int{-256}, 8, []int{-1}},
	{[]int{-25600}, 10, []int{-25}},
	// A few: it is the least that counts, wherever it stands, and a 0 does not.
	{[]int{4, 8, 16}, 2, []int{1, 2, 4}},
	{[]int{16, 8, 4}, 2, []int{4, 2, 1}},
	{[]int{8, 4, 16}, 2, []int{2, 1, 4}},
	{[]int{8, 16, 1}, 0, []int{8, 16, 1}},
	{[]int{1, 8, 16}, 0, []int{1, 8, 16}},
	{[]int{8, -1, 16}, 0, []int{8, -1, 16}},
	{[]int{0, 24, 0}, 3, []int{0, 3, 0}},
	{[]int{24, 0, -40}, 3, []int{3, 0, -5}},
	{[]int{0, 0, -7}, 0, []int{0, 0, -7}},
	{[]int{-4, 4}, 2, []int{-1, 1}},
	{[]int{-6, 10, -14}, 1, []int{-3, 5, -7}},
	{[]int{256, -512, 768, 0, 1280}, 8, []int{1, -2, 3, 0, 5}},
	{[]int{32512, -32768, 0}, 8, []int{127, -128, 0}},
	// What the samples add up to, or differ by, wastes more than they do.
	{[]int{1, 3}, 0, []int{1, 3}},
	{[]int{2, 6}, 1, []int{1, 3}},
	{[]int{5, 5}, 0, []int{5, 5}},
	{[]int{7, -7}, 0, []int{7, -7}},
	{[]int{12, -12, 20}, 2, []int{3, -3, 5}},
	// So many are 0 as may go, one less and one more.
	{[]int{8192, -24576}, 13, []int{1, -3}},
	{[]int{16384, -49152}, 14, []int{1, -3}},
	{[]int{32768, -98304}, 15, []int{1, -3}},
	{[]int{16384, 32768}, 14, []int{1, 2}},
	{[]int{-32768, -65536}, 15, []int{-1, -2}},
	{[]int{65536}, 15, []int{2}},
	{[]int{-65536, 0}, 15, []int{-2, 0}},
	// At the ends, and beside them.
	{[]int{loud}, 15, []int{4}},
	{[]int{-loud}, 15, []int{-4}},
	{[]int{loud, -loud}, 15, []int{4, -4}},
	{[]int{loud, 0, -loud, 65536, -32768, 98304}, 15, []int{4, 0, -4, 2, -1, 3}},
	{[]int{loud, -loud, 1}, 0, []int{loud, -loud, 1}},
	{[]int{loud - 1, -loud}, 0, []int{loud - 1, -loud}},
	{[]int{loud - 2, 2 - loud}, 1, []int{65535, -65535}},
	{[]int{loud - 4, -loud}, 2, []int{32767, -32768}},
	{[]int{loud - 16384}, 14, []int{7}},
	{[]int{16384 - loud}, 14, []int{-7}},
}

// numbered is a row of numbers, the same each time.
type numbered uint64

func (n *numbered) next(below int) int {
	*n = *n*6364136223846793005 + 1442695040888963407
	return int(uint64(*n) >> 33 % uint64(below))
}

// within is one from -end to end.
func (n *numbered) within(end int) int {
	return n.next(2*end+1) - end
}

// sound is many samples that come up from others by so much; some are 0.
func (n *numbered) sound(many int, by int) (xs []int, down []int) {
	power := powers(by)
	wide := max(1, []int{1, 9, 300, 32768, loud}[n.next(5)]/power)
	for range many {
		x := 0
		if n.next(5) > 0 {
			x = n.within(min(wide, loud/power))
		}
		down = append(down, x)
		xs = append(xs, x*power)
	}
	return xs, down
}

// powers is 2 to by, by adding up alone.
func powers(by int) int {
	power := 1
	for range by {
		power += power
	}
	return power
}

// wasted is what the samples waste, by trying.
func wasted(xs []int) int {
	if !slices.ContainsFunc(xs, func(x int) bool { return x != 0 }) {
		return 0
	}
	for by := far; by > 0; by-- {
		if !slices.ContainsFunc(xs, func(x int) bool { return x%powers(by) != 0 }) {
			return by
		}
	}
	return 0
}

func TestSamplesWorkedOutByHand(t *testing.T) {
	for _, c := range told {
		waste(t, c.xs, c.by)
		goes(t, c.xs, c.by, c.down)
	}
}

func TestOddOnesWasteNothing(t *testing.T) {
	n := numbered(18)
	for x := 1; x < loud; x += 2 {
		waste(t, []int{x}, 0)
		waste(t, []int{-x}, 0)
	}
	for many := 1; many < 200; many++ {
		xs, _ := n.sound(many, n.next(16))
		for _, place := range places(many) {
			odd := changed(xs, place, 2*n.within(loud/2-1)+1)
			waste(t, odd, 0)
			goes(t, odd, 0, odd)
			for by := 1; by <= far; by++ {
				refuses(t, Down, odd, by)
			}
		}
	}
}

// One that wastes fewer is told by, wherever it stands; 0 beside it is not.
func TestTheLeastCounts(t *testing.T) {
	for least := range far + 1 {
		for more := least; more <= 17; more++ {
			for _, sign := range []int{1, -1} {
				for _, many := range []int{1, 2, 3, 64, 257} {
					for _, place := range places(many) {
						few, lots := sign*powers(least), powers(more)
						waste(t, changed(slices.Repeat([]int{lots}, many), place, few), least)
						waste(t, changed(slices.Repeat([]int{-lots}, many), place, few), least)
						waste(t, changed(make([]int, many), place, few), least)
					}
				}
			}
		}
	}
}

func TestNoSampleWastesMoreThanMayGo(t *testing.T) {
	for _, xs := range [][]int{{32768}, {-32768}, {65536}, {-65536}, {loud}, {-loud}, {98304}, {-98304}, {loud, -loud}, {65536, loud},
		{0, loud}, {-loud, 0}} {
		waste(t, xs, far)
		for _, by := range []int{16, 17, 18} {
			refuses(t, Down, xs, by)
		}
	}
}

// 0 is a multiple of each: it goes by as many as may go, though nothing is wasted.
func TestAllAreZero(t *testing.T) {
	for _, many := range []int{0, 1, 2, 3, 64, 257, 4096} {
		waste(t, make([]int, many), 0)
		for by := range far + 1 {
			goes(t, make([]int, many), by, make([]int, many))
		}
		for _, by := range wrongBys {
			bothRefuse(t, make([]int, many), by)
		}
	}
}

func TestNoSamples(t *testing.T) {
	for _, none := range [][]int{nil, {}, make([]int, 0, 9), ends[:0]} {
		waste(t, none, 0)
		for by := range far + 1 {
			goes(t, none, by, nil)
		}
		for _, by := range wrongBys {
			bothRefuse(t, none, by)
		}
	}
}

func TestByNothing(t *testing.T) {
	n := numbered(19)
	for _, x := range ends {
		goes(t, []int{x}, 0, []int{x})
	}
	goes(t, ends, 0, ends)
	for many := range 300 {
		xs, _ := n.sound(many, n.next(16))
		goes(t, xs, 0, xs)
	}
}

// Each sample that may be goes by what it wastes and by less, by no more; and comes up by what leaves it a sample.
func TestEachSample(t *testing.T) {
	for x := -loud; x <= loud; x++ {
		free := wasted([]int{x})
		if got, e := Wasted([]int{x}); got != free || e != api.OK {
			t.Fatalf("P18.1: of %d: %d, %d; want %d", x, got, e, free)
		}
		for by, power := 0, 1; by <= far; by, power = by+1, 2*power {
			down, e := Down([]int{x}, by)
			if by > free && x != 0 {
				if len(down) != 0 || e != api.ErrShiftForm {
					t.Fatalf("P18.2: Down of %d by %d: %v, %d; want ErrShiftForm", x, by, down, e)
				}
			} else if len(down) != 1 || down[0]*power != x || e != api.OK {
				t.Fatalf("P18.2: Down of %d by %d: %v, %d", x, by, down, e)
			}
			up, e := Up([]int{x}, by)
			if x*power < -loud || x*power > loud {
				if len(up) != 0 || e != api.ErrShiftForm {
					t.Fatalf("P18.2: Up of %d by %d: %v, %d; want ErrShiftForm", x, by, up, e)
				}
			} else if len(up) != 1 || up[0] != x*power || e != api.OK {
				t.Fatalf("P18.2: Up of %d by %d: %v, %d", x, by, up, e)
			}
		}
	}
}

func TestSamplesOfAllKinds(t *testing.T) {
	n := numbered(20)
	for range 3000 {
		by := n.next(16)
		xs, down := n.sound(n.next(60), by)
		waste(t, xs, wasted(xs))
		goes(t, xs, by, down)
	}
}

func TestThereAndBack(t *testing.T) {
	n := numbered(21)
	for range 1000 {
		xs, _ := n.sound(1+n.next(40), n.next(16))
		free, _ := Wasted(xs)
		for by := range far + 1 {
			if by > free && slices.ContainsFunc(xs, func(x int) bool { return x != 0 }) {
				refuses(t, Down, xs, by)
				continue
			}
			down, e := Down(xs, by)
			back, f := Up(down, by)
			if !slices.Equal(back, xs) || e != api.OK || f != api.OK {
				t.Errorf("P18.2: %v by %d: %v, %d, and up again %v, %d", xs, by, down, e, back, f)
			}
		}
	}
}

// By so many and then by so many more is as by all of them at once, down and up; and what has gone wastes as much less.
func TestSoManyAndSoManyMore(t *testing.T) {
	n := numbered(22)
	for all := range far + 1 {
		for some := range all + 1 {
			for range 20 {
				xs, down := n.sound(20, all)
				first, _ := Down(xs, some)
				second, e := Down(first, all-some)
				if !slices.Equal(second, down) || e != api.OK {
					t.Errorf("P18.2: %v by %d and by %d: %v, %d; want %v", xs, some, all-some, second, e, down)
				}
				first, _ = Up(down, some)
				second, e = Up(first, all-some)
				if !slices.Equal(second, xs) || e != api.OK {
					t.Errorf("P18.2: %v up by %d and by %d: %v, %d; want %v", down, some, all-some, second, e, xs)
				}
			}
			waste(t, []int{powers(all), 0, -3 * powers(min(all, 14))}, min(all, 14))
			down, _ := Down([]int{powers(all), 0, -powers(all)}, some)
			waste(t, down, all-some)
		}
	}
}

// What comes up comes just to an end; what comes one further is none.
func TestUpToTheEnds(t *testing.T) {
	for by := range far + 1 {
		end := loud / powers(by)
		goes(t, []int{loud, -loud, loud, 0}, by, []int{end, -end, end, 0})
		for _, many := range []int{1, 2, 3, 64, 257} {
			for _, place := range places(many) {
				for _, x := range []int{end, -end} {
					up := changed(make([]int, many), place, x*powers(by))
					goes(t, up, by, changed(make([]int, many), place, x))
				}
				for _, more := range []int{1, 2, 3, 5, 1000, loud / 2, loud - 1, loud} {
					refuses(t, Up, changed(make([]int, many), place, end+more), by)
					refuses(t, Up, changed(make([]int, many), place, -end-more), by)
					refuses(t, Up, changed(slices.Repeat([]int{end}, many), place, end+more), by)
					refuses(t, Up, changed(slices.Repeat([]int{-end}, many), place, -end-more), by)
				}
			}
		}
	}
	for by := 1; by <= far; by++ {
		for _, x := range []int{-loud, 1 - loud, -loud/2 - 1, loud/2 + 1, loud - 1, loud} {
			refuses(t, Up, []int{x}, by)
			refuses(t, Up, []int{0, x, 1}, by)
		}
	}
}

func TestNoMultiple(t *testing.T) {
	n := numbered(23)
	for by := 1; by <= far; by++ {
		for _, many := range []int{1, 2, 3, 64, 257} {
			xs, down := n.sound(many, by)
			goes(t, xs, by, down)
			for _, place := range places(many) {
				for _, off := range []int{1, powers(by - 1), powers(by) - 1, powers(by) + 1, powers(by-1) + powers(by)} {
					for _, x := range []int{off, -off, loud - off, off - loud} {
						refuses(t, Down, changed(xs, place, x), by)
						refuses(t, Down, changed(make([]int, many), place, x), by)
					}
				}
			}
		}
	}
	for place := range 300 {
		refuses(t, Down, changed(make([]int, 300), place, 1), 1)
		refuses(t, Down, changed(slices.Repeat([]int{-32768}, 300), place, -16384), 15)
	}
}

func TestByBeyondTheEnds(t *testing.T) {
	n := numbered(24)
	for _, by := range wrongBys {
		for _, xs := range [][]int{{1}, {-1}, {0, 1}, {32768}, {-65536}, {loud, -loud}, {0, loud}, ends} {
			bothRefuse(t, xs, by)
		}
		for many := range 20 {
			xs, down := n.sound(many, 15)
			bothRefuse(t, xs, by)
			bothRefuse(t, down, by)
		}
	}
}

func TestSamplesBeyondTheEnds(t *testing.T) {
	n := numbered(25)
	for _, many := range []int{1, 2, 3, 64, 257} {
		for by := range far + 1 {
			xs, down := n.sound(many, by)
			for _, x := range wrongSamples {
				for _, place := range places(many) {
					noWaste(t, changed(xs, place, x))
					noWaste(t, changed(make([]int, many), place, x))
					refuses(t, Down, changed(xs, place, x), by)
					refuses(t, Up, changed(down, place, x), by)
					bothRefuse(t, changed(make([]int, many), place, x), by)
				}
			}
		}
	}
	for place := range 300 {
		for _, x := range []int{loud + 1, -loud - 1, loud + 32768, -loud - 32768} {
			noWaste(t, changed(make([]int, 300), place, x))
			for _, by := range []int{0, 1, 15} {
				bothRefuse(t, changed(make([]int, 300), place, x), by)
			}
		}
	}
}

// Nor where the shifted one would be fine: it comes from beyond, or it wraps round.
func TestSamplesBeyondTheEndsWhoseShiftedOnesMayBe(t *testing.T) {
	for by := range far + 1 {
		power := powers(by)
		for _, x := range []int{loud + power, -loud - power, loud + 32768, -loud - 32768, 2 * loud, -2 * loud, 2 * power * loud, -3 * power * loud} {
			noWaste(t, []int{x})
			refuses(t, Down, []int{x}, by)
			refuses(t, Down, []int{0, x, power}, by)
		}
		for bit := 64 - by; bit < 64; bit++ {
			wraps := int(uint64(1) << bit)
			for _, x := range []int{wraps, wraps + 1, wraps - 1, -wraps, 1 - wraps, -wraps - 1} {
				noWaste(t, []int{x})
				bothRefuse(t, []int{x}, by)
				bothRefuse(t, []int{0, x, 0}, by)
			}
		}
	}
}

func TestTwoWrongThings(t *testing.T) {
	for _, x := range wrongSamples {
		for _, y := range []int{x, -x, 1 - x, loud + 1, -loud - 1, math.MaxInt, math.MinInt} {
			noWaste(t, []int{x, 0, y})
			for _, by := range []int{0, 1, 15, -1, 16, math.MaxInt, math.MinInt} {
				bothRefuse(t, []int{x, 0, y}, by)
			}
		}
		for _, by := range wrongBys {
			bothRefuse(t, []int{x}, by)
			bothRefuse(t, []int{0, 1, x}, by)
		}
		for by := 1; by <= far; by++ {
			refuses(t, Down, []int{1, x}, by)
			refuses(t, Down, []int{x, 1}, by)
			refuses(t, Up, []int{loud, x}, by)
			refuses(t, Up, []int{x, loud}, by)
		}
	}
	for _, by := range wrongBys {
		bothRefuse(t, []int{1, 3, 5}, by)
		bothRefuse(t, []int{loud, 1 - loud}, by)
	}
	refuses(t, Down, []int{1, 3, 5}, 1)
	refuses(t, Up, []int{loud, -loud}, 1)
}

func TestManySamples(t *testing.T) {
	n := numbered(26)
	for _, many := range []int{256, 257, 4096, 65537, 1 << 20} {
		for _, by := range []int{0, 1, 8, 15} {
			xs, down := n.sound(many, by)
			waste(t, changed(xs, many-1, powers(by)), by)
			goes(t, xs, by, down)
			noWaste(t, changed(xs, many-1, loud+1))
			refuses(t, Down, changed(xs, many-1, loud+1), by)
			refuses(t, Up, changed(down, many-1, loud/powers(by)+1), by)
			if by > 0 {
				refuses(t, Down, changed(xs, many-1, powers(by-1)), by)
			}
		}
	}
}

func TestWhatIsHandedInStays(t *testing.T) {
	n := numbered(27)
	for _, many := range []int{0, 1, 5, 100} {
		for _, by := range []int{0, 1, 7, 15} {
			xs, down := n.sound(many, by)
			stays(t, Down, xs, by, api.OK)
			stays(t, Up, down, by, api.OK)
			stays(t, Down, xs, 16, api.ErrShiftForm)
			stays(t, Up, down, -1, api.ErrShiftForm)
			if many > 0 {
				stays(t, Down, changed(xs, many-1, loud+1), by, api.ErrShiftForm)
				stays(t, Up, changed(down, many-1, loud+1), by, api.ErrShiftForm)
				stays(t, Down, changed(xs, many-1, 1), max(by, 1), api.ErrShiftForm)
				stays(t, Up, changed(down, many-1, loud), max(by, 1), api.ErrShiftForm)
			}
		}
	}
	for _, c := range told {
		wastes := func(xs []int, by int) ([]int, api.Errno) {
			_, e := Wasted(xs)
			return nil, e
		}
		stays(t, wastes, c.xs, c.by, api.OK)
		stays(t, wastes, append(slices.Clone(c.xs), loud+1), c.by, api.ErrShiftForm)
	}
}

// stays: of samples that are a part of a list, nothing of that is changed, whatever is answered, nor when that is written to,
// its spare room too.
func stays(t *testing.T, f call, xs []int, by int, want api.Errno) {
	t.Helper()
	all := slices.Concat([]int{1, -2, 3}, xs, []int{4, -5, loud + 6})
	old := slices.Clone(all)
	got, e := f(all[3:3+len(xs)], by)
	if e != want || !slices.Equal(all, old) {
		t.Errorf("R4: of %v by %d, %d: the samples were changed, or what is about them", xs, by, e)
	}
	got = got[:cap(got)]
	for i := range got {
		got[i] += 1000
	}
	if !slices.Equal(all, old) {
		t.Errorf("R4: of %v by %d: what is answered is a part of the samples", xs, by)
	}
}

func TestWhatIsAnsweredIsTheCallersOwn(t *testing.T) {
	n := numbered(28)
	for by := range far + 1 {
		xs, down := n.sound(50, by)
		isOwn(t, Down, xs, by, down)
		isOwn(t, Up, down, by, xs)
	}
}

func isOwn(t *testing.T, f call, xs []int, by int, want []int) {
	t.Helper()
	in := slices.Clone(xs)
	one, _ := f(in, by)
	two, _ := f(in, by)
	for i := range one {
		one[i] = -9
	}
	if three, _ := f(in, by); !slices.Equal(in, xs) || !slices.Equal(two, want) || !slices.Equal(three, want) {
		t.Errorf("R4: by %d an answer was written to: %v, %v; want %v", by, two, three, want)
	}
	for i := range in {
		in[i] = 9
	}
	if !slices.Equal(two, want) {
		t.Errorf("R4: by %d what was handed in was written to: %v; want %v", by, two, want)
	}
}

func TestNothingIsKept(t *testing.T) {
	n := numbered(29)
	for range 20 {
		xs, down := n.sound(9, 5)
		Wasted(xs)
		Down(xs, 5)
		Up(down, 5)
		Wasted([]int{5, loud + 1})
		Down([]int{5, 900}, 1)
		Up([]int{5, loud}, 16)
		for _, c := range told {
			waste(t, c.xs, c.by)
			goes(t, c.xs, c.by, c.down)
		}
	}
}

func TestCallsAtOneTime(t *testing.T) {
	ours := numbered(30)
	shared, sharedDown := ours.sound(500, 3)
	var group sync.WaitGroup
	for worker := range 8 {
		group.Go(func() {
			n := numbered(worker % 2)
			for range 100 {
				by := n.next(16)
				xs, down := n.sound(100, by)
				goes(t, xs, by, down)
				waste(t, xs, wasted(xs))
				goes(t, shared, 3, sharedDown)
			}
		})
	}
	group.Wait()
}

func waste(t *testing.T, xs []int, want int) {
	t.Helper()
	if got, e := Wasted(xs); got != want || e != api.OK {
		t.Errorf("P18.1: of %v: %d, %d; want %d", xs, got, e, want)
	}
}

func noWaste(t *testing.T, xs []int) {
	t.Helper()
	if got, e := Wasted(xs); got != 0 || e != api.ErrShiftForm {
		t.Errorf("P18.1: of %d samples: %d, %d; want ErrShiftForm", len(xs), got, e)
	}
}

// goes: by so many Down tells down of xs, Up xs of down; so there and back, and back and there.
func goes(t *testing.T, xs []int, by int, down []int) {
	t.Helper()
	got, e := Down(xs, by)
	if !slices.Equal(got, down) || e != api.OK {
		t.Errorf("P18.2: Down of %v by %d: %v, %d; want %v", xs, by, got, e, down)
	}
	if back, e := Up(got, by); !slices.Equal(back, xs) || e != api.OK {
		t.Errorf("P18.2: Up of what Down tells of %v by %d: %v, %d", xs, by, back, e)
	}
	got, e = Up(down, by)
	if !slices.Equal(got, xs) || e != api.OK {
		t.Errorf("P18.2: Up of %v by %d: %v, %d; want %v", down, by, got, e, xs)
	}
	if again, e := Down(got, by); !slices.Equal(again, down) || e != api.OK {
		t.Errorf("P18.2: Down of what Up tells of %v by %d: %v, %d", down, by, again, e)
	}
}

func bothRefuse(t *testing.T, xs []int, by int) {
	t.Helper()
	refuses(t, Down, xs, by)
	refuses(t, Up, xs, by)
}

func refuses(t *testing.T, f call, xs []int, by int) {
	t.Helper()
	if got, e := f(xs, by); len(got) != 0 || e != api.ErrShiftForm {
		t.Errorf("P18.2: of %d samples by %d: %v, %d; want ErrShiftForm", len(xs), by, got, e)
	}
}

// places are the first, a middle and the last.
func places(many int) []int {
	return slices.Compact([]int{0, many / 2, many - 1})
}

// changed is a list that has x there.
func changed(xs []int, place int, x int) []int {
	out := slices.Clone(xs)
	out[place] = x
	return out
}
