package side

import (
	"math"
	"slices"
	"sync"
	"testing"

	"descant/api"
)

// loud is the end of what a sample may be.
const loud = 131072

type call func(chs [][]int) ([][]int, api.Errno)

var (
	// Those that may not be are beyond the ends, by one and far; of some the lowest bits alone would be fine.
	wrongSamples = []int{loud + 1, -loud - 1, loud + 2, -loud - 2, 2 * loud, -2 * loud, 1048576, -1048576, 1<<31 - 1, 1 << 31, -1 << 31,
		1 << 32, -1 << 32, 1<<32 + 5, 5 - 1<<32, 1 << 62, -1 << 62, 1<<62 + 5, math.MaxInt - loud, math.MaxInt - 1, math.MaxInt,
		math.MinInt, math.MinInt + 1, math.MinInt + 5, math.MinInt + loud}
	// ends are those that may be, and those beside them and in the middle.
	ends = []int{-loud, 1 - loud, 2 - loud, -loud / 2, -loud/2 - 1, 1 - loud/2, -2, -1, 0, 1, 2, loud/2 - 1, loud / 2, loud/2 + 1,
		loud - 2, loud - 1, loud}
)

// told are channels, and what is told of them, worked out by hand.
var told = []struct {
	chs [][]int
	out [][]int
}{
	// One alone stays as it is.
	{[][]int{nil}, [][]int{nil}},
	{[][]int{{}}, [][]int{{}}},
	{[][]int{{0}}, [][]int{{0}}},
	{[][]int{{-7}}, [][]int{{-7}}},
	{[][]int{{3, -1, 4, -1, 5}}, [][]int{{3, -1, 4, -1, 5}}},
	{[][]int{{loud, -loud, loud - 1, 1 - loud, 0}}, [][]int{{loud, -loud, loud - 1, 1 - loud, 0}}},
	// Two of no samples.
	{[][]int{nil, nil}, [][]int{nil, nil}},
	{[][]int{{}, {}}, [][]int{{}, {}}},
	{[][]int{nil, {}}, [][]int{{}, nil}},
	{[][]int{{}, nil}, [][]int{nil, {}}},
	// Two of one, on either side of 0.
	{[][]int{{0}, {0}}, [][]int{{0}, {0}}},
	{[][]int{{0}, {9}}, [][]int{{0}, {9}}},
	{[][]int{{9}, {0}}, [][]int{{9}, {-9}}},
	{[][]int{{5}, {7}}, [][]int{{5}, {2}}},
	{[][]int{{7}, {5}}, [][]int{{7}, {-2}}},
	{[][]int{{-5}, {7}}, [][]int{{-5}, {12}}},
	{[][]int{{5}, {-7}}, [][]int{{5}, {-12}}},
	{[][]int{{-5}, {-7}}, [][]int{{-5}, {-2}}},
	// Two of a few.
	{[][]int{{1, 2, 3}, {10, 20, 30}}, [][]int{{1, 2, 3}, {9, 18, 27}}},
	{[][]int{{100, 300, -200, 0}, {90, 310, -250, 1}}, [][]int{{100, 300, -200, 0}, {-10, 10, -50, 1}}},
	{[][]int{{-32768, 32767, 0, -1, 1}, {32767, -32768, 0, 1, -1}}, [][]int{{-32768, 32767, 0, -1, 1}, {65535, -65535, 0, 2, -2}}},
	// What is told is just at either end.
	{[][]int{{0, 0}, {loud, -loud}}, [][]int{{0, 0}, {loud, -loud}}},
	{[][]int{{loud, -loud}, {0, 0}}, [][]int{{loud, -loud}, {-loud, loud}}},
	{[][]int{{loud, -loud}, {loud, -loud}}, [][]int{{loud, -loud}, {0, 0}}},
	{[][]int{{-1, 1}, {loud - 1, 1 - loud}}, [][]int{{-1, 1}, {loud, -loud}}},
	{[][]int{{-65536, 65536}, {65536, -65536}}, [][]int{{-65536, 65536}, {loud, -loud}}},
	{[][]int{{-100000, 100000}, {31072, -31072}}, [][]int{{-100000, 100000}, {loud, -loud}}},
	{[][]int{{1 - loud, loud - 1}, {1, -1}}, [][]int{{1 - loud, loud - 1}, {loud, -loud}}},
}

// numbered is a row of numbers, the same each time.
type numbered uint64

func (n *numbered) next(below int) int {
	*n = *n*6364136223846793005 + 1442695040888963407
	return int(uint64(*n) >> 33 % uint64(below))
}

// within is one from -end to end.
func (n *numbered) within(end int) int {
	return n.next(2*end+1) - end
}

// sound is many samples of some width.
func (n *numbered) sound(many int) []int {
	wide := []int{0, 1, 9, 300, 32768, 65536, loud}[n.next(7)]
	xs := make([]int, many)
	for i := range xs {
		xs[i] = n.within(wide)
	}
	return xs
}

// pair is two channels that may be told, and what is told of them: each difference is drawn so that it may be.
func (n *numbered) pair(many int) (chs [][]int, out [][]int) {
	first, second, off := n.sound(many), make([]int, many), make([]int, many)
	wide := []int{0, 1, 100, 32768, loud}[n.next(5)]
	for i, x := range first {
		off[i] = max(-loud-x, -loud, min(loud-x, loud, n.within(wide)))
		second[i] = x + off[i]
	}
	return [][]int{first, second}, [][]int{first, off}
}

func TestChannelsWorkedOutByHand(t *testing.T) {
	for _, c := range told {
		areTold(t, c.chs, c.out)
	}
}

func TestOneChannelStays(t *testing.T) {
	n := numbered(17)
	for _, x := range ends {
		areTold(t, [][]int{{x}}, [][]int{{x}})
	}
	for many := range 300 {
		ch := n.sound(many)
		areTold(t, [][]int{ch}, [][]int{ch})
	}
}

func TestNoSamples(t *testing.T) {
	none := [][]int{nil, {}, make([]int, 0, 9)}
	for _, a := range none {
		areTold(t, [][]int{a}, [][]int{nil})
		for _, b := range none {
			areTold(t, [][]int{a, b}, [][]int{nil, nil})
		}
	}
}

func TestTwoThatAreTheSame(t *testing.T) {
	n := numbered(18)
	for many := range 100 {
		ch := n.sound(many)
		areTold(t, [][]int{ch, ch}, [][]int{ch, make([]int, many)})
		areTold(t, [][]int{ch, slices.Clone(ch)}, [][]int{ch, make([]int, many)})
	}
}

// Two the other way round have the opposite differences.
func TestTwoTheOtherWayRound(t *testing.T) {
	n := numbered(19)
	for many := range 100 {
		chs, out := n.pair(many)
		opposite := make([]int, many)
		for i, x := range out[1] {
			opposite[i] = -x
		}
		areTold(t, chs, out)
		areTold(t, [][]int{chs[1], chs[0]}, [][]int{chs[1], opposite})
	}
}

func TestPairsOfAllKinds(t *testing.T) {
	n := numbered(20)
	for range 3000 {
		chs, out := n.pair(n.next(60))
		areTold(t, chs, out)
	}
}

func TestManySamples(t *testing.T) {
	n := numbered(21)
	for _, many := range []int{256, 257, 4096, 65537, 1 << 20} {
		chs, out := n.pair(many)
		areTold(t, chs, out)
		areTold(t, chs[:1], chs[:1])
		refuses(t, Put, beside(chs, 1, many-1, loud+1))
		refuses(t, Get, beside(out, 1, many-1, loud+1))
	}
}

// Near the ends and in the middle each may be beside each, but where what is told is beyond an end; beside them others stay as
// they are told.
func TestEachBesideEach(t *testing.T) {
	for _, x := range ends {
		for _, y := range ends {
			chs := [][]int{{4, x, -4}, {1, y, 1}}
			isToldOrRefused(t, Put, chs, [][]int{{4, x, -4}, {-3, y - x, 5}}, y-x)
			isToldOrRefused(t, Get, chs, [][]int{{4, x, -4}, {5, y + x, -3}}, y+x)
		}
	}
}

func isToldOrRefused(t *testing.T, f call, chs [][]int, want [][]int, turned int) {
	t.Helper()
	if turned < -loud || turned > loud {
		refuses(t, f, chs)
		return
	}
	if got, e := f(chs); !same(got, want) || e != api.OK {
		t.Errorf("P17.1: of %v: %v, %d; want %v", chs, got, e, want)
	}
}

// Channels that may be, but what is told of them is beyond an end: by one, by far, and as far as may be.
func TestWhatIsToldMayNotBe(t *testing.T) {
	for _, many := range []int{1, 2, 3, 64, 257} {
		for _, place := range places(many) {
			for _, beyond := range []int{1, 2, 5, 1000, loud / 2, loud - 1, loud} {
				for _, x := range []int{beyond, loud/2 + beyond/2, loud} {
					y := loud + beyond - x
					chs := [][]int{make([]int, many), make([]int, many)}
					refuses(t, Put, beside(beside(chs, 0, place, -x), 1, place, y))
					refuses(t, Put, beside(beside(chs, 0, place, x), 1, place, -y))
					refuses(t, Get, beside(beside(chs, 0, place, x), 1, place, y))
					refuses(t, Get, beside(beside(chs, 0, place, -x), 1, place, -y))
				}
			}
		}
	}
	// A first sample at an end leaves the second one all that is to the one side of it, and nothing to the other.
	areTold(t, [][]int{{loud}, {loud}}, [][]int{{loud}, {0}})
	areTold(t, [][]int{{loud}, {0}}, [][]int{{loud}, {-loud}})
	areTold(t, [][]int{{-loud}, {-1}}, [][]int{{-loud}, {loud - 1}})
	refuses(t, Put, [][]int{{-loud}, {1}})
	refuses(t, Get, [][]int{{loud}, {1}})
	refuses(t, Put, [][]int{{-loud}, {loud}})
	refuses(t, Get, [][]int{{loud}, {loud}})
}

func TestNoChannel(t *testing.T) {
	bothRefuse(t, nil)
	bothRefuse(t, [][]int{})
	bothRefuse(t, make([][]int, 0, 2))
}

func TestTooManyChannels(t *testing.T) {
	n := numbered(22)
	for _, channels := range []int{3, 4, 5, 8, 16, 255, 256, 257, 258, 65537, 65538} {
		bothRefuse(t, make([][]int, channels))
		bothRefuse(t, slices.Repeat([][]int{{0}}, channels))
		bothRefuse(t, slices.Repeat([][]int{n.sound(20)}, channels))
	}
	// Nor where the first two, or the first, would do.
	bothRefuse(t, [][]int{{1, 2}, {3, 4}, nil})
	bothRefuse(t, [][]int{{1, 2}, {3, 4}, {5, 6}})
	bothRefuse(t, [][]int{{1, 2}, nil, nil})
	bothRefuse(t, [][]int{nil, nil, {1}})
}

func TestChannelsOfDifferentLengths(t *testing.T) {
	n := numbered(23)
	bothRefuse(t, [][]int{{1}, nil})
	bothRefuse(t, [][]int{nil, {1}})
	bothRefuse(t, [][]int{{0}, {}})
	bothRefuse(t, [][]int{{}, {0}})
	for _, many := range []int{0, 1, 2, 3, 63, 64, 65, 256, 1000} {
		for _, more := range []int{1, 2, 3, 64, 256, 65536} {
			short, long := n.sound(many), n.sound(many+more)
			bothRefuse(t, [][]int{short, long})
			bothRefuse(t, [][]int{long, short})
			bothRefuse(t, [][]int{make([]int, many), make([]int, many+more)})
			bothRefuse(t, [][]int{make([]int, many+more), make([]int, many)})
			// What stands behind the shorter one's samples is none of it.
			bothRefuse(t, [][]int{long, long[:many]})
			bothRefuse(t, [][]int{long[:many], long})
		}
	}
}

func TestSamplesBeyondTheEnds(t *testing.T) {
	n := numbered(24)
	for _, many := range []int{1, 2, 3, 64, 257} {
		chs, out := n.pair(many)
		for _, x := range wrongSamples {
			for _, place := range places(many) {
				bothRefuse(t, [][]int{changed(chs[0], place, x)})
				bothRefuse(t, [][]int{changed(make([]int, many), place, x)})
				for channel := range 2 {
					refuses(t, Put, beside(chs, channel, place, x))
					refuses(t, Get, beside(out, channel, place, x))
					bothRefuse(t, beside([][]int{make([]int, many), make([]int, many)}, channel, place, x))
				}
			}
		}
	}
	for place := range 300 {
		for channel := range 2 {
			bothRefuse(t, beside([][]int{make([]int, 300), make([]int, 300)}, channel, place, loud+1))
			bothRefuse(t, beside([][]int{make([]int, 300), make([]int, 300)}, channel, place, -loud-1))
		}
	}
}

// Nor where what is told would be fine.
func TestSamplesBeyondTheEndsThatMakeUpForEachOther(t *testing.T) {
	for _, x := range wrongSamples {
		bothRefuse(t, [][]int{{x}, {x}})
		bothRefuse(t, [][]int{{x}, {-x}})
		bothRefuse(t, [][]int{{-x}, {x}})
	}
	for _, x := range []int{loud + 1, loud + 2, 2 * loud} {
		bothRefuse(t, [][]int{{loud}, {x}})
		bothRefuse(t, [][]int{{x}, {loud}})
		bothRefuse(t, [][]int{{-loud}, {x}})
		bothRefuse(t, [][]int{{-loud}, {-x}})
		bothRefuse(t, [][]int{{x}, {-loud}})
		bothRefuse(t, [][]int{{-x}, {-loud}})
	}
}

func TestTwoWrongThings(t *testing.T) {
	for _, x := range wrongSamples {
		for _, y := range []int{x, -x, 1 - x, loud + 1, -loud - 1, math.MaxInt, math.MinInt} {
			bothRefuse(t, [][]int{{x, 0, y}})
			bothRefuse(t, [][]int{{x, 0, y}, {0, 0, 0}})
			bothRefuse(t, [][]int{{x, 0}, {0, y}})
		}
		bothRefuse(t, [][]int{{x}, nil})
		bothRefuse(t, [][]int{nil, {x}})
		bothRefuse(t, [][]int{{1, 2}, {1, 2, x}})
		bothRefuse(t, [][]int{{1, 2, x}, {1, 2}})
		bothRefuse(t, [][]int{{x}, {1}, {2}})
		bothRefuse(t, [][]int{{1}, {2}, {x}})
		bothRefuse(t, [][]int{{x}, {1, 2}, nil})
		// One is beyond, and elsewhere what is told would be.
		bothRefuse(t, [][]int{{loud, -loud, x}, {loud, loud, 0}})
		bothRefuse(t, [][]int{{x, loud, -loud}, {0, loud, loud}})
	}
	bothRefuse(t, [][]int{{1}, {1, 2}, {1, 2, 3}})
	bothRefuse(t, [][]int{{loud, -loud}, {loud, loud}, {0, 0}})
	bothRefuse(t, [][]int{{loud, -loud, 0}, {loud, loud}})
}

func TestWhatIsHandedInStays(t *testing.T) {
	n := numbered(25)
	for _, many := range []int{0, 1, 5, 100} {
		chs, out := n.pair(many)
		stays(t, Put, chs, api.OK)
		stays(t, Get, out, api.OK)
		stays(t, Put, chs[:1], api.OK)
		stays(t, Get, chs[:1], api.OK)
		if many > 0 {
			for _, f := range []call{Put, Get} {
				stays(t, f, beside(chs, 1, many-1, loud+1), api.ErrSideForm)
				stays(t, f, [][]int{chs[0], chs[1][1:]}, api.ErrSideForm)
			}
			stays(t, Put, beside(beside(chs, 0, many-1, loud), 1, many-1, -1), api.ErrSideForm)
			stays(t, Get, beside(beside(out, 0, many-1, loud), 1, many-1, 1), api.ErrSideForm)
		}
	}
	for _, f := range []call{Put, Get} {
		stays(t, f, nil, api.ErrSideForm)
		stays(t, f, [][]int{{1}, {2}, {3}}, api.ErrSideForm)
	}
}

// stays: of channels that are parts of one list, in a list with others about it, nothing is changed, whatever is answered, nor
// when that is written to, its spare room too.
func stays(t *testing.T, f call, chs [][]int, want api.Errno) {
	t.Helper()
	all := []int{1, -2, 3}
	for _, ch := range chs {
		all = append(append(all, ch...), 4, -5)
	}
	rows := [][]int{{77}}
	from := 3
	for _, ch := range chs {
		rows = append(rows, all[from:from+len(ch)])
		from += len(ch) + 2
	}
	rows = append(rows, []int{88}, []int{99})
	oldAll, oldRows := slices.Clone(all), slices.Clone(rows)
	got, e := f(rows[1 : 1+len(chs)])
	isAsItWas := func() bool {
		return slices.Equal(all, oldAll) && slices.EqualFunc(rows, oldRows, isOneList)
	}
	if e != want || !isAsItWas() {
		t.Errorf("R4: of %v, %d: the channels were changed, or what is about them", chs, e)
	}
	got = got[:cap(got)]
	for i, ch := range got {
		ch = ch[:cap(ch)]
		for k := range ch {
			ch[k] += 1000
		}
		got[i] = nil
	}
	if !isAsItWas() {
		t.Errorf("R4: of %v: what is answered is a part of the channels", chs)
	}
}

// isOneList says whether both are one list: as long, and in one place.
func isOneList(a []int, b []int) bool {
	return len(a) == len(b) && cap(a) == cap(b) && (len(a) == 0 || &a[0] == &b[0])
}

func TestWhatIsAnsweredIsTheCallersOwn(t *testing.T) {
	n := numbered(26)
	chs, out := n.pair(50)
	for _, c := range []struct {
		f    call
		in   [][]int
		want [][]int
	}{{Put, chs, out}, {Get, out, chs}, {Put, chs[:1], chs[:1]}, {Get, chs[:1], chs[:1]}} {
		in := clone(c.in)
		one, _ := c.f(in)
		two, _ := c.f(in)
		three, _ := c.f(in)
		four, _ := c.f(in)
		for i := range one {
			for k := range one[i] {
				one[i][k] = -9
			}
		}
		clear(three)
		if five, _ := c.f(in); !same(in, c.in) || !same(two, c.want) || !same(four, c.want) || !same(five, c.want) {
			t.Errorf("R4: an answer was written to: %v, %v, %v; want %v", two, four, five, c.want)
		}
		for i := range in {
			for k := range in[i] {
				in[i][k] = 9
			}
		}
		clear(in)
		if !same(two, c.want) {
			t.Errorf("R4: what was handed in was written to: %v; want %v", two, c.want)
		}
	}
}

// Both lists of one answer are by themselves, their spare room too; also where both channels are one list.
func TestListsOfOneAnswerShareNothing(t *testing.T) {
	n := numbered(27)
	ch := n.sound(40)
	zeros := make([]int, 40)
	chs, out := n.pair(40)
	for _, c := range []struct {
		f    call
		in   [][]int
		want [][]int
	}{
		{Put, chs, out}, {Get, out, chs}, {Put, [][]int{ch, ch}, [][]int{ch, zeros}}, {Get, [][]int{ch, zeros}, [][]int{ch, ch}},
		{Put, [][]int{zeros, zeros}, [][]int{zeros, zeros}}, {Get, [][]int{zeros, zeros}, [][]int{zeros, zeros}},
	} {
		for channel := range 2 {
			got, e := c.f(clone(c.in))
			if len(got) != 2 || e != api.OK {
				t.Fatalf("P17.1: of %v: %v, %d; want %v", c.in, got, e, c.want)
			}
			ch := append(got[channel], 1, 2, 3)
			for k := range ch {
				ch[k] = -9
			}
			for k := range got[channel] {
				got[channel][k] = -9
			}
			if other := 1 - channel; !slices.Equal(got[other], c.want[other]) {
				t.Errorf("R4: list %d was written to, list %d is %v; want %v", channel, other, got[other], c.want[other])
			}
		}
	}
}

// Channels that are one list, or lie over each other, are told as any others.
func TestChannelsThatLieOverEachOther(t *testing.T) {
	row := []int{1, 4, 9, 16, 25, 36}
	for _, c := range []struct {
		chs [][]int
		out [][]int
	}{
		{[][]int{row, row}, [][]int{{1, 4, 9, 16, 25, 36}, {0, 0, 0, 0, 0, 0}}},
		{[][]int{row[:5], row[1:]}, [][]int{{1, 4, 9, 16, 25}, {3, 5, 7, 9, 11}}},
		{[][]int{row[1:], row[:5]}, [][]int{{4, 9, 16, 25, 36}, {-3, -5, -7, -9, -11}}},
	} {
		areTold(t, c.chs, c.out)
	}
	if got, e := Get([][]int{row[:5], row[1:]}); !same(got, [][]int{{1, 4, 9, 16, 25}, {5, 13, 25, 41, 61}}) || e != api.OK {
		t.Errorf("P17.1: %v, %d", got, e)
	}
}

func TestNothingIsKept(t *testing.T) {
	n := numbered(28)
	for range 20 {
		Put([][]int{n.sound(9), n.sound(9)})
		Get([][]int{n.sound(9), n.sound(9)})
		Put([][]int{{5, 900, loud + 1}})
		Get([][]int{{5}, {900}, {7}})
		for _, c := range told {
			areTold(t, c.chs, c.out)
		}
	}
}

func TestCallsAtOneTime(t *testing.T) {
	ours := numbered(29)
	shared, sharedOut := ours.pair(500)
	var group sync.WaitGroup
	for worker := range 8 {
		group.Go(func() {
			n := numbered(worker % 2)
			for range 100 {
				chs, out := n.pair(100)
				areTold(t, chs, out)
				areTold(t, shared, sharedOut)
			}
		})
	}
	group.Wait()
}

// areTold: Put tells out of chs, Get chs of out; so there and back, and back and there.
func areTold(t *testing.T, chs [][]int, out [][]int) {
	t.Helper()
	got, e := Put(chs)
	if !same(got, out) || e != api.OK {
		t.Errorf("P17.1: Put of %v: %v, %d; want %v", chs, got, e, out)
	}
	if back, e := Get(got); !same(back, chs) || e != api.OK {
		t.Errorf("P17.1: Get of what Put tells of %v: %v, %d", chs, back, e)
	}
	got, e = Get(out)
	if !same(got, chs) || e != api.OK {
		t.Errorf("P17.1: Get of %v: %v, %d; want %v", out, got, e, chs)
	}
	if again, e := Put(got); !same(again, out) || e != api.OK {
		t.Errorf("P17.1: Put of what Get tells of %v: %v, %d", out, again, e)
	}
}

func bothRefuse(t *testing.T, chs [][]int) {
	t.Helper()
	refuses(t, Put, chs)
	refuses(t, Get, chs)
}

func refuses(t *testing.T, f call, chs [][]int) {
	t.Helper()
	if got, e := f(chs); len(got) != 0 || e != api.ErrSideForm {
		t.Errorf("P17.1: of %d channels: %v, %d; want ErrSideForm", len(chs), got, e)
	}
}

// same says whether both have the same channels; no list and an empty one are one.
func same(a [][]int, b [][]int) bool {
	return slices.EqualFunc(a, b, slices.Equal[[]int])
}

func clone(chs [][]int) [][]int {
	var out [][]int
	for _, ch := range chs {
		out = append(out, slices.Clone(ch))
	}
	return out
}

// places are the first, a middle and the last.
func places(many int) []int {
	return slices.Compact([]int{0, many / 2, many - 1})
}

// changed is a list that has x there.
func changed(xs []int, place int, x int) []int {
	out := slices.Clone(xs)
	out[place] = x
	return out
}

// beside is channels, one of which has x there.
func beside(chs [][]int, channel int, place int, x int) [][]int {
	out := slices.Clone(chs)
	out[channel] = changed(out[channel], place, x)
	return out
}
