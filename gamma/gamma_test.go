package gamma

import (
	"math"
	"slices"
	"strconv"
	"strings"
	"sync"
	"testing"

	"descant/api"
)

// told are numbers and the bits that tell them, worked out by hand.
var told = []struct {
	u    int
	want string
}{
	{0, "0"},
	{1, "1 0 0"},
	{2, "1 0 1"},
	{3, "11 0 00"},
	{4, "11 0 01"},
	{5, "11 0 10"},
	{6, "11 0 11"},
	{7, "111 0 000"},
	{8, "111 0 001"},
	{11, "111 0 100"},
	{13, "111 0 110"},
	{14, "111 0 111"},
	{15, "1111 0 0000"},
	{99, "111111 0 100100"},
	{254, "1111111 0 1111111"},
	{255, "11111111 0 00000000"},
	{256, "11111111 0 00000001"},
	{1000, "111111111 0 111101001"},
	{65534, "111111111111111 0 111111111111111"},
	{65535, "1111111111111111 0 0000000000000000"},
	{16777215, "111111111111111111111111 0 000000000000000000000000"},
	{16777216, "111111111111111111111111 0 000000000000000000000001"},
	// The last one that takes 49 bits, then the only two that take 51.
	{33554430, "111111111111111111111111 0 111111111111111111111111"},
	{33554431, "1111111111111111111111111 0 0000000000000000000000000"},
	{33554432, "1111111111111111111111111 0 0000000000000000000000001"},
}

func TestBitsWorkedOutByHand(t *testing.T) {
	for _, c := range told {
		if got, e := Bits(c.u); !slices.Equal(got, read(c.want)) || e != api.OK {
			t.Errorf("P11.1: Bits of %d: %v, %d; want %s", c.u, got, e, c.want)
		}
	}
}

func TestNumberWorkedOutByHand(t *testing.T) {
	for _, c := range told {
		if got, e := Number(read(c.want)); got != c.u || e != api.OK {
			t.Errorf("P11.1: Number of %s: %d, %d; want %d", c.want, got, e, c.u)
		}
	}
}

// The first of n bits more is the power of two less 1, as it is 1 more that is told.
func TestNumbersAboutPowersOfTwo(t *testing.T) {
	for n := range 26 {
		for u := max(0, 1<<n-5); u <= min(33554432, 1<<n+5); u++ {
			comesBack(t, u)
		}
		if bs, e := Bits(1<<n - 1); len(bs) != 2*n+1 || e != api.OK {
			t.Errorf("P11.1: Bits of %d: %d of them, %d; want %d", 1<<n-1, len(bs), e, 2*n+1)
		}
		if bs, e := Bits(1<<n - 2); n > 0 && (len(bs) != 2*n-1 || e != api.OK) {
			t.Errorf("P11.1: Bits of %d: %d of them, %d; want %d", 1<<n-2, len(bs), e, 2*n-1)
		}
	}
}

func TestNumbersComeBack(t *testing.T) {
	for u := range 1 << 17 {
		comesBack(t, u)
	}
	for u := 1 << 17; u <= 33554432; u += 127 {
		comesBack(t, u)
	}
	for u := 33554432 - 10000; u <= 33554432; u++ {
		comesBack(t, u)
	}
}

func TestBitsRefusesNumbersBeyondTheEnds(t *testing.T) {
	for _, u := range []int{-1, -2, -3, -33554432, -33554433, -1 << 31, -1 << 32, 1 - 1<<32, -1 << 62, math.MinInt,
		math.MinInt + 1, math.MinInt + 33554432, 33554433, 33554434, 33554435, 67108862, 67108863, 67108864, 1<<31 - 1,
		1 << 31, 1<<32 - 1, 1 << 32, 1<<32 + 1, 1 << 62, 1<<62 - 1, math.MaxInt - 1, math.MaxInt} {
		isNoBits(t, u)
	}
	for far := range 10000 {
		isNoBits(t, -1-far)
		isNoBits(t, 33554433+far)
	}
}

// Each row of up to 15 bits tells a number or none, as the row of a number's bits is the only one that tells it.
func TestEveryShortRowOfBits(t *testing.T) {
	numbers := map[string]int{}
	for u := range 255 {
		numbers[written(plainBits(u))] = u
	}
	found := 0
	for many := range 16 {
		for row := range 1 << many {
			bs := digits(row, many, []int{0, 1})
			u, tells := numbers[written(bs)]
			if !tells {
				isNoNumber(t, bs)
				continue
			}
			found++
			if got, e := Number(bs); got != u || e != api.OK {
				t.Errorf("P11.1: Number of %v: %d, %d; want %d", bs, got, e, u)
			}
			if back, e := Bits(u); !slices.Equal(back, bs) || e != api.OK {
				t.Errorf("P11.1: Bits of %d: %v, %d; want %v", u, back, e, bs)
			}
		}
	}
	if found != 255 {
		t.Errorf("P11.1: %d numbers have up to 15 bits; want 255", found)
	}
}

func TestEveryShortRowOfOtherThings(t *testing.T) {
	for many := range 8 {
		for row := range 1 << (2 * many) {
			bs := digits(row, many, []int{0, 1, 2, -1})
			if slices.Contains(bs, 2) || slices.Contains(bs, -1) {
				isNoNumber(t, bs)
			}
		}
	}
}

func TestNumberRefusesThingsThatAreNoBits(t *testing.T) {
	for _, u := range edges() {
		for place := range plainBits(u) {
			// Of some the lowest bits alone are a bit, of others they make up for it as they are added to what is ahead.
			for _, thing := range []int{2, 3, -1, -2, 48, 49, 256, 257, 1 << 32, 1<<32 + 1, -1 << 32, 1 - 1<<32, 1 << 62,
				math.MaxInt, math.MaxInt - 1, math.MinInt, math.MinInt + 1} {
				bs := plainBits(u)
				bs[place] = thing
				isNoNumber(t, bs)
			}
		}
	}
}

func TestNumberRefusesTooFewAndTooManyBits(t *testing.T) {
	isNoNumber(t, nil)
	isNoNumber(t, []int{})
	for _, u := range edges() {
		bs := plainBits(u)
		for many := range len(bs) {
			isNoNumber(t, bs[:many])
		}
		for more := range 60 {
			isNoNumber(t, slices.Concat(bs, slices.Repeat([]int{0}, more+1)))
			isNoNumber(t, slices.Concat(bs, slices.Repeat([]int{1}, more+1)))
			isNoNumber(t, slices.Concat(bs, bs, bs[:min(more, len(bs))]))
		}
		isNoNumber(t, slices.Concat([]int{1}, bs))
		isNoNumber(t, slices.Concat([]int{0}, bs))
		if u > 0 {
			isNoNumber(t, bs[1:])
		}
	}
	for many := range 200 {
		isNoNumber(t, slices.Repeat([]int{1}, many))
		isNoNumber(t, slices.Repeat([]int{0}, many+2))
	}
}

// A bit 0 ahead of the middle, or a bit 1 in it: the length alone does not make a number.
func TestNumberRefusesAWrongHead(t *testing.T) {
	for _, u := range edges() {
		n := len(plainBits(u)) / 2
		for place := range n + 1 {
			bs := plainBits(u)
			bs[place] = 1 - bs[place]
			isNoNumber(t, bs)
		}
	}
}

func TestNumberRefusesNumbersThatAreTooGreat(t *testing.T) {
	for far := range 10000 {
		isNoNumber(t, plainBits(33554433+far))
	}
	for n := 26; n < 62; n++ {
		for _, u := range []int{1<<n - 3, 1<<n - 2, 1<<n - 1, 1 << n, 1<<n + 1, 1<<n + 33554432} {
			isNoNumber(t, plainBits(u))
		}
	}
	for _, u := range []int{1<<26 - 2, 1<<62 - 1, math.MaxInt - 2, math.MaxInt - 1} {
		isNoNumber(t, plainBits(u))
	}
}

// Rows of the right form whose highest bits are shifted out of an int, so that what is left would be a number that is told.
func TestNumberRefusesVeryManyBits(t *testing.T) {
	for _, n := range []int{63, 64, 65, 66, 127, 128, 129, 255, 256, 257, 1000, 65535, 1 << 20} {
		for _, last := range []int{0, 1} {
			bs := slices.Concat(slices.Repeat([]int{1}, n), slices.Repeat([]int{0}, n), []int{last})
			isNoNumber(t, bs)
		}
		isNoNumber(t, slices.Repeat([]int{1}, 2*n+1))
		isNoNumber(t, slices.Repeat([]int{0}, 2*n+1))
		isNoNumber(t, slices.Concat(slices.Repeat([]int{1}, n), []int{0}, slices.Repeat([]int{1}, n)))
	}
}

// What is handed in is the middle of a greater list: neither it nor what is about it changes, nor does the room tell.
func TestWhatIsHandedInStays(t *testing.T) {
	for _, u := range edges() {
		for _, wrong := range []int{0, 1} {
			bs := plainBits(u)
			whole := slices.Concat([]int{1, 7}, bs, []int{0, 1, -5, 1 << 40})
			if wrong == 1 {
				whole[1+len(bs)] = 9
			}
			before := slices.Clone(whole)
			handed := whole[2 : 2+len(bs)]
			got, e := Number(handed)
			if !slices.Equal(whole, before) {
				t.Errorf("R4: Number of %v: %v is now %v", handed, before, whole)
			}
			if wrong == 0 && (got != u || e != api.OK) || wrong == 1 && (got != 0 || e != api.ErrGammaForm) {
				t.Errorf("P11.1: Number of %v: %d, %d", handed, got, e)
			}
		}
	}
}

// Each answer is spoilt, its spare room too; those ahead of it and those behind it are right.
func TestAnswersShareNoMemory(t *testing.T) {
	for _, u := range edges() {
		first, _ := Bits(u)
		second, _ := Bits(u)
		spoil(first)
		third, _ := Bits(u)
		for _, bs := range [][]int{second, third} {
			if !slices.Equal(bs, plainBits(u)) {
				t.Errorf("R4: Bits of %d: %v, once another answer is changed", u, bs)
			}
		}
		comesBack(t, u)
	}
}

func TestSeveralGoroutinesAtOneTime(t *testing.T) {
	shared := plainBits(33554432)
	var wait sync.WaitGroup
	for k := range 8 {
		wait.Go(func() {
			for u := k; u <= 33554432; u += 16381 {
				bs, e := Bits(u)
				back, f := Number(bs)
				if !slices.Equal(bs, plainBits(u)) || e != api.OK || back != u || f != api.OK {
					t.Errorf("R5: %d: %v, %d, %d, %d", u, bs, e, back, f)
				}
				if got, e := Number(shared); got != 33554432 || e != api.OK {
					t.Errorf("R5: %v: %d, %d", shared, got, e)
				}
			}
		})
	}
	wait.Wait()
}

// edges are numbers of each length, the ends among them.
func edges() []int {
	us := []int{33554431, 33554432}
	for n := range 25 {
		us = append(us, 1<<n-1, 1<<n, 1<<n+1<<n/3)
	}
	return us
}

// plainBits is the chapter's Bits by its words; numbers that are too great are told too.
func plainBits(u int) []int {
	v := strconv.FormatInt(int64(u)+1, 2)
	behind := v[1:]
	return read(strings.Repeat("1", len(behind)) + "0" + behind)
}

// read is the bits that a text shows.
func read(s string) []int {
	bs := []int{}
	for _, c := range s {
		if c != ' ' {
			bs = append(bs, int(c-'0'))
		}
	}
	return bs
}

// written is bits as a text.
func written(bs []int) string {
	var s strings.Builder
	for _, b := range bs {
		s.WriteString(strconv.Itoa(b))
	}
	return s.String()
}

// digits is a number's digits, many of them, each shown as one of the things.
func digits(x int, many int, things []int) []int {
	row := make([]int, many)
	for i := range row {
		row[i] = things[x%len(things)]
		x /= len(things)
	}
	return row
}

func spoil(bs []int) {
	whole := bs[:cap(bs)]
	for i := range whole {
		whole[i] = 1 << 50
	}
}

func comesBack(t *testing.T, u int) {
	t.Helper()
	want := plainBits(u)
	if got, e := Bits(u); !slices.Equal(got, want) || e != api.OK {
		t.Fatalf("P11.1: Bits of %d: %v, %d; want %v", u, got, e, want)
	}
	if got, e := Number(want); got != u || e != api.OK {
		t.Fatalf("P11.1: Number of %v: %d, %d; want %d", want, got, e, u)
	}
}

func isNoBits(t *testing.T, u int) {
	t.Helper()
	if got, e := Bits(u); len(got) != 0 || e != api.ErrGammaForm {
		t.Errorf("P11.1: Bits of %d: %v, %d; want ErrGammaForm", u, got, e)
	}
}

func isNoNumber(t *testing.T, bs []int) {
	t.Helper()
	if got, e := Number(bs); got != 0 || e != api.ErrGammaForm {
		t.Errorf("P11.1: Number of %d: %v: %d, %d; want ErrGammaForm", len(bs), bs[:min(len(bs), 60)], got, e)
	}
}
