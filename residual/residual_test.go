package residual

import (
	"math"
	"slices"
	"strings"
	"sync"
	"testing"

	"descant/api"
	"descant/coder"
	"descant/context"
	"descant/fold"
	"descant/gamma"
	"descant/model"
)

const most = 16777216

var (
	// Those that may not be are beyond the ends, by one and far; of some the lowest bits alone would be fine.
	wrongNumbers = []int{most + 1, -most - 1, most + 2, -most - 2, 2 * most, -2 * most, 1<<31 - 1, 1 << 31, 1<<32 - 1, 1 << 32, 1<<32 + 7,
		-1 << 31, -1 << 32, 7 - 1<<32, 1 << 62, -1 << 62, 1<<62 + 7, math.MaxInt - 1, math.MaxInt, math.MinInt, math.MinInt + 1, math.MinInt + 7}
	wrongManies = []int{-1, -2, -256, -257, 257, 258, 511, 512, 65536, 1<<31 - 1, 1 << 31, 1 << 32, 1<<32 + 2, -1 << 31, -1 << 32,
		2 - 1<<32, 1 << 40, 1 << 62, -1 << 62, math.MaxInt - 1, math.MaxInt, math.MinInt, math.MinInt + 1, math.MinInt + 2}
)

// told are rows and their texts, worked out apart from the program, with whole numbers of any size.
var told = []struct {
	rs   []int
	want string
}{
	{nil, "\x00\x00\x00\x00"},
	// One bit 0, with the chance 2051 of 4096 that it is 1: 2051 * 2^20 is the first number that is left.
	{[]int{0}, "\x80\x30\x00\x00"},
	{[]int{1}, "\x41\x68\x7e\x00"},
	{[]int{-1}, "\x60\xd8\x04\x68"},
	{[]int{0, 0}, "\xbc\x09\x86\x00"},
	{[]int{1, 1}, "\x49\x6a\xdb\x3d"},
	{[]int{-1, -1}, "\x6c\xd2\x1f\x7d"},
	{[]int{1, -1}, "\x4d\xc5\x79\x56"},
	{[]int{0, 1}, "\x9e\x27\xfb\xc9"},
	{[]int{1, 0}, "\x51\xc7\x41\xae"},
	{[]int{2}, "\x31\xc1\xfc\xb3"},
	{[]int{-2}, "\x39\x40\x23\xfa"},
	{[]int{100}, "\x02\x39\x9b\x91\x28"},
	{[]int{-100}, "\x02\x3b\xdd\x37\x68"},
	{[]int{1, 2, 3, 4, 5}, "\x47\xa1\xc7\x1e\x6b\x20\x00"},
	{[]int{5, 4, 3, 2, 1}, "\x1a\x50\xde\xe1\x29\x1a"},
	{[]int{1000, 0, 1000}, "\x00\x5a\x04\xea\x45\x1c\x00\x20"},
	{[]int{0, 1000, 0}, "\x80\x53\xc2\xf1\xf3\xc7"},
	{[]int{7, -300, 7, -300, 7}, "\x12\x0b\xbb\x08\x65\x73\x51\x71\x73\xaf"},
	{[]int{most}, "\x00\x00\x4e\xaa\xc0\x45\x5b\x00"},
	{[]int{-most}, "\x00\x00\x4e\xaa\xf9\xd6\x16"},
	{[]int{most - 1}, "\x00\x00\x4e\xae\x47\xac\x00"},
	{[]int{1 - most}, "\x00\x00\x4e\xb2\x85\x1d\xaf\x00"},
	{[]int{most, -most}, "\x00\x00\x4e\xaa\xc0\x46\x04\xff\xeb\x8d"},
	{[]int{-most, 0, most}, "\x00\x00\x4e\xac\xb9\xdf\x63\xd1\x00\x00"},
	{slices.Repeat([]int{0}, 16), "\xff\x71\x80\xea\x2c"},
	{slices.Repeat([]int{0}, 256), "\xff\xe6\x5a\x73\xaa"},
	{slices.Repeat([]int{1}, 40), "\x4a\xbb\x51\x4d\x7c\xba\x74\x5d"},
}

func TestTextsWorkedOutApart(t *testing.T) {
	for _, c := range told {
		if s, e := Put(c.rs); s != c.want || e != api.OK {
			t.Errorf("P13.1: Put of %v: %q, %d; want %q", c.rs, s, e, c.want)
		}
		if rs, e := Get(c.want, len(c.rs)); !slices.Equal(rs, c.rs) || e != api.OK {
			t.Errorf("P13.2: Get of %q, %d: %v, %d; want %v", c.want, len(c.rs), rs, e, c.rs)
		}
	}
}

func TestOneNumber(t *testing.T) {
	for x := -600; x <= 600; x++ {
		comesBack(t, []int{x})
	}
	for n := range 25 {
		for _, x := range []int{1<<n - 1, 1 << n, min(most, 1<<n+1), 3 << n >> 2} {
			comesBack(t, []int{x})
			comesBack(t, []int{-x})
		}
	}
}

func TestNoListAndAnEmptyOneAreOne(t *testing.T) {
	for _, rs := range [][]int{nil, {}, make([]int, 0, 9)} {
		comesBack(t, rs)
	}
}

func TestRowsThatAreAlike(t *testing.T) {
	for _, x := range []int{0, 1, -1, 2, -7, 100, -5000, most, -most} {
		for _, many := range []int{1, 2, 3, 17, 64, 255, 256} {
			comesBack(t, slices.Repeat([]int{x}, many))
		}
	}
	// Each is the beginning of the next one: so no text is another's, whatever many there are.
	row := some(77, 120)
	for many := range row {
		comesBack(t, row[:many])
	}
}

func TestTheGreatestAndTheLeastAtEachPlace(t *testing.T) {
	for _, x := range []int{most, -most, most - 1, 1 - most} {
		for place := range 12 {
			for _, other := range []int{0, -1, 40, most, -most} {
				rs := slices.Repeat([]int{other}, 12)
				rs[place] = x
				comesBack(t, rs)
			}
		}
		for _, place := range []int{0, 1, 127, 254, 255} {
			rs := make([]int, 256)
			rs[place] = x
			comesBack(t, rs)
		}
	}
}

// What the number ahead began with matters: all heads stand behind all others.
func TestUnlikeHeads(t *testing.T) {
	heads := func(n int) int {
		x, e := fold.Get(1<<n - 1)
		if e != api.OK {
			t.Fatalf("fold.Get of %d: %d", 1<<n-1, e)
		}
		return x
	}
	for a := range 26 {
		for b := range 26 {
			comesBack(t, []int{heads(a), heads(b), heads(a)})
		}
	}
	var all []int
	for i := range 256 {
		all = append(all, heads(i*7%26))
	}
	comesBack(t, all)
}

func TestRowsOfManyWidths(t *testing.T) {
	for seed := range 150 {
		comesBack(t, some(uint64(seed), []int{2, 3, 5, 9, 20, 40}[seed%6]))
	}
	for _, many := range []int{254, 255, 256} {
		for seed := range 8 {
			comesBack(t, some(uint64(900+seed), many))
		}
	}
}

// Small numbers and great ones by turns are the hardest to guess: their text is the longest, and there is room for it.
func TestRowsThatAreHardToGuess(t *testing.T) {
	hard := make([]int, 256)
	next := numbers(31)
	for i := range hard {
		hard[i] = []int{most, -most, 0, next(most), -next(most)}[next(5)]
	}
	comesBack(t, hard)
	s, _ := Put(hard)
	if len(s) < 256 || len(s) > 256*51*4+4 {
		t.Errorf("P13.1: %d bytes", len(s))
	}
}

func TestPutRefusesTooMany(t *testing.T) {
	for _, many := range []int{257, 258, 300, 511, 512, 513, 4096, 65536, 65537, 1 << 20} {
		putRefuses(t, make([]int, many))
		putRefuses(t, slices.Repeat([]int{most}, many))
	}
}

func TestPutRefusesNumbersBeyondTheEnds(t *testing.T) {
	for _, x := range wrongNumbers {
		for _, many := range []int{1, 2, 3, 5, 255, 256} {
			for _, place := range []int{0, 1, many / 2, many - 2, many - 1} {
				if place < 0 || place >= many {
					continue
				}
				rs := slices.Repeat([]int{-3}, many)
				rs[place] = x
				putRefuses(t, rs)
			}
		}
	}
	for place := range 256 {
		rs := make([]int, 256)
		rs[place] = []int{most + 1, -most - 1}[place%2]
		putRefuses(t, rs)
	}
}

func TestPutRefusesTwoWrongThings(t *testing.T) {
	for _, x := range wrongNumbers {
		putRefuses(t, []int{x, 0, -x})
		putRefuses(t, slices.Repeat([]int{x}, 256))
		rs := make([]int, 257)
		rs[0] = x
		putRefuses(t, rs)
		rs[0], rs[256] = 0, x
		putRefuses(t, rs)
	}
}

func TestGetRefusesManiesBeyondTheEnds(t *testing.T) {
	full, _ := Put(some(4, 256))
	for _, many := range wrongManies {
		for _, s := range []string{"", "\x00\x00\x00\x00", "\x80\x30\x00\x00", "\xbc\x09\x86\x00", full, "abc"} {
			getRefuses(t, s, many)
		}
	}
	// These texts are as Put would tell them of more than there may be.
	for _, many := range []int{257, 258, 512} {
		getRefuses(t, plain(t, make([]int, many)), many)
		getRefuses(t, plain(t, some(3, many)), many)
	}
	// Two wrong things at once.
	for _, many := range wrongManies {
		getRefuses(t, string(make([]byte, 65537)), many)
	}
}

func TestGetRefusesLongTexts(t *testing.T) {
	for _, many := range []int{0, 1, 5, 255, 256} {
		rs := some(uint64(many), many)
		s, _ := Put(rs)
		for _, length := range []int{65535, 65536, 65537, 65538, 1 << 20} {
			for _, fill := range []string{"\x00", "\xff", "a"} {
				getRefuses(t, s+strings.Repeat(fill, length-len(s)), many)
				getRefuses(t, strings.Repeat(fill, length), many)
			}
		}
	}
}

// Each number has a bit 0, which lifts what is left: so no text tells two manies.
func TestGetRefusesAnotherMany(t *testing.T) {
	for _, c := range told {
		for many := range 257 {
			if many != len(c.rs) {
				getRefuses(t, c.want, many)
			}
		}
	}
}

func TestGetRefusesOtherLengths(t *testing.T) {
	for seed := range 24 {
		rs := some(uint64(300+seed), seed)
		s, _ := Put(rs)
		for _, more := range []string{"\x00", "\x01", "x", "\xff", "\x00\x00", "\x00\x00\x00\x00", s} {
			getRefuses(t, s+more, seed)
		}
		for less := range s {
			getHolds(t, s[:less], seed)
			getHolds(t, s[less+1:], seed)
		}
	}
	for many := range 257 {
		for length := range 4 {
			getRefuses(t, strings.Repeat("\x00", length), many)
			getRefuses(t, strings.Repeat("\xff", length), many)
			getRefuses(t, "abc"[:length], many)
		}
	}
}

// A decoder reads 0 behind a text's end: so it finds the same numbers where a text's last 0 are gone.
func TestGetRefusesTextsWithoutTheirLastZeros(t *testing.T) {
	seen := 0
	for _, c := range told {
		for s := c.want; strings.HasSuffix(s, "\x00"); {
			s = s[:len(s)-1]
			getRefuses(t, s, len(c.rs))
			seen++
		}
	}
	if seen < 8 {
		t.Errorf("no text ends with 0: %d", seen)
	}
}

func TestGetHoldsTurnedBits(t *testing.T) {
	for seed := range 14 {
		rs := some(uint64(600+seed), seed)
		s, _ := Put(rs)
		for i := range 8 * len(s) {
			turned := []byte(s)
			turned[i/8] ^= 1 << (i % 8)
			getHolds(t, string(turned), seed)
		}
	}
	// The last bit: one more than the least number that is left is left too, and finds the same numbers.
	for _, c := range told {
		turned := []byte(c.want)
		turned[len(turned)-1] ^= 1
		if turned[len(turned)-1]&1 == 1 {
			getRefuses(t, string(turned), len(c.rs))
		}
	}
}

func TestGetHoldsBytesDrawnAtWill(t *testing.T) {
	next := numbers(8)
	for range 2000 {
		b := make([]byte, next(24))
		for i := range b {
			b[i] = byte(next(256))
		}
		getHolds(t, string(b), next(20))
	}
	for many := range 257 {
		getHolds(t, strings.Repeat("\xff", many), many)
		getHolds(t, strings.Repeat("\xaa", many), many)
	}
}

// A head of bits 1 that does not end, or ends behind more than a number has, is none.
func TestGetRefusesHeadsThatAreTooLong(t *testing.T) {
	for ones := range 64 {
		bs := slices.Repeat([]int{1}, ones)
		if ones < 63 {
			bs = append(bs, 0)
		}
		for len(bs) < min(2*ones+1, 63) {
			bs = append(bs, 1)
		}
		s := coded(t, bs)
		switch {
		case ones <= 24:
			getTells(t, s, 1)
		default:
			getRefuses(t, s, 1)
		}
	}
	// The greatest two take 51 bits; those that follow take as many, but are no numbers.
	for low, want := range []int{-most, most} {
		bs := append(slices.Repeat([]int{1}, 25), slices.Repeat([]int{0}, 25)...)
		if rs := getTells(t, coded(t, append(bs, low)), 1); !slices.Equal(rs, []int{want}) {
			t.Errorf("P13.2: %v; want %d", rs, want)
		}
	}
	for _, low := range []int{2, 3, 4, 1 << 10, 1<<25 - 1} {
		bs := append(slices.Repeat([]int{1}, 25), 0)
		for i := range 25 {
			bs = append(bs, low>>(24-i)&1)
		}
		getRefuses(t, coded(t, bs), 1)
	}
}

func TestWhatIsHandedInStaysAsItWas(t *testing.T) {
	for _, many := range []int{0, 1, 5, 100, 256, 257} {
		whole := some(uint64(50+many), many+20)
		old := slices.Clone(whole)
		Put(whole[10 : 10+many])
		if !slices.Equal(whole, old) {
			t.Errorf("R4: Put of %d numbers changed the list, or what is about it", many)
		}
		whole[10] = most + 1
		old = slices.Clone(whole)
		Put(whole[10 : 10+many])
		if !slices.Equal(whole, old) {
			t.Errorf("R4: Put of %d numbers changed the list that it refused, or what is about it", many)
		}
	}
}

func TestWhatIsAnsweredIsTheCallersOwn(t *testing.T) {
	rs := some(5, 40)
	s, _ := Put(rs)
	one, _ := Get(s, 40)
	two, _ := Get(s, 40)
	for i := range one {
		one[i] = 0
	}
	one = append(one[:0], slices.Repeat([]int{9}, cap(one))...)
	if three, e := Get(s, 40); !slices.Equal(two, rs) || !slices.Equal(three, rs) || e != api.OK {
		t.Errorf("R4: after a change of %d answered numbers: %v, %v; want %v", len(one), two, three, rs)
	}
}

func TestCallsAtOneTime(t *testing.T) {
	var group sync.WaitGroup
	for worker := range 8 {
		group.Go(func() {
			for i := range 12 {
				rs := some(uint64(worker%2*100+i), 20)
				s, e := Put(rs)
				if got, f := Get(s, 20); !slices.Equal(got, rs) || e != api.OK || f != api.OK {
					t.Errorf("R5: %v came back as %v, %d, %d", rs, got, e, f)
				}
			}
		})
	}
	group.Wait()
}

// plain tells rs by the chapter's words, one call behind the other.
func plain(t *testing.T, rs []int) string {
	t.Helper()
	m, c, before := model.New(), coder.New(), 0
	for _, x := range rs {
		u, e := fold.Put(x)
		bs, e2 := gamma.Bits(u)
		if e != api.OK || e2 != api.OK {
			t.Fatalf("%d is refused: %d, %d", x, e, e2)
		}
		m, c = codedBits(t, m, c, before, bs)
		before = slices.Index(bs, 0)
	}
	s, e := coder.End(c)
	if e != api.OK {
		t.Fatalf("coder.End: %d", e)
	}
	return s
}

// coded is the text of any bits, as if they were the first number's.
func coded(t *testing.T, bs []int) string {
	t.Helper()
	_, c := codedBits(t, model.New(), coder.New(), 0, bs)
	s, e := coder.End(c)
	if e != api.OK {
		t.Fatalf("coder.End: %d", e)
	}
	return s
}

func codedBits(t *testing.T, m api.Model, c api.Coder, before int, bs []int) (api.Model, api.Coder) {
	t.Helper()
	for i, bit := range bs {
		ctx, e := context.Of(before, bs[:i])
		p, e2 := model.P(m, ctx)
		next, e3 := coder.Bit(c, bit, p)
		learned, e4 := model.Learn(m, ctx, bit)
		if e != api.OK || e2 != api.OK || e3 != api.OK || e4 != api.OK {
			t.Fatalf("bit %d of %v: %d, %d, %d, %d", i, bs, e, e2, e3, e4)
		}
		m, c = learned, next
	}
	return m, c
}

// comesBack: the text is the plain one, and the numbers come back from it.
func comesBack(t *testing.T, rs []int) {
	t.Helper()
	want := plain(t, rs)
	if s, e := Put(rs); s != want || e != api.OK {
		t.Errorf("P13.1: Put of %v: %q, %d; want %q", rs, s, e, want)
	}
	if got, e := Get(want, len(rs)); !slices.Equal(got, rs) || e != api.OK {
		t.Errorf("P13.2: Get of %q, %d: %v, %d; want %v", want, len(rs), got, e, rs)
	}
}

func putRefuses(t *testing.T, rs []int) {
	t.Helper()
	if s, e := Put(rs); s != "" || e != api.ErrResidualForm {
		t.Errorf("P13.1: Put of %d numbers: %q, %d; want ErrResidualForm", len(rs), s, e)
	}
}

func getRefuses(t *testing.T, s string, many int) {
	t.Helper()
	if rs, e := Get(s, many); len(rs) != 0 || e != api.ErrResidualForm {
		t.Errorf("P13.2: Get of %d bytes, %d: %v, %d; want ErrResidualForm", len(s), many, rs, e)
	}
}

func getTells(t *testing.T, s string, many int) []int {
	t.Helper()
	rs, e := Get(s, many)
	if len(rs) != many || e != api.OK || plain(t, rs) != s {
		t.Errorf("P13.2: Get of %q, %d: %v, %d", s, many, rs, e)
	}
	return rs
}

// getHolds: s is refused unless it is the text of the numbers that are answered.
func getHolds(t *testing.T, s string, many int) {
	t.Helper()
	if _, e := Get(s, many); e == api.OK {
		getTells(t, s, many)
	} else {
		getRefuses(t, s, many)
	}
}

// some are many numbers, as wide as the seed says, some of them at the ends.
func some(seed uint64, many int) []int {
	next := numbers(seed)
	wide := []int{1, 2, 9, 130, 5000, 1 << 20, most}[seed%7]
	rs := make([]int, many)
	for i := range rs {
		rs[i] = next(2*wide+1) - wide
		if next(25) == 0 {
			rs[i] = []int{most, -most, 0, 1, -1}[next(5)]
		}
	}
	return rs
}

// numbers draws one below n each time, the same row for the same seed.
func numbers(seed uint64) func(n int) int {
	state := seed*2862933555777941757 + 3037000493
	return func(n int) int {
		state = state*6364136223846793005 + 1442695040888963407
		return int(state >> 33 % uint64(n))
	}
}
