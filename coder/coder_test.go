package coder

import (
	"math"
	"math/big"
	"strings"
	"sync"
	"testing"

	"descant/api"
)

const top = 1<<32 - 1

func TestNew(t *testing.T) {
	if c := New(); c != (api.Coder{Low: 0, High: 4294967295, Out: ""}) {
		t.Errorf("P4.1: New: %v", c)
	}
	if !May(New()) {
		t.Error("P4.1: New's coder may not be")
	}
}

func TestMay(t *testing.T) {
	for _, c := range []struct {
		low, high int
		want      bool
	}{
		{0, top, true},
		{0, 1 << 24, true},
		{1<<24 - 1, 1 << 24, true},
		{0x00ffffff, 0x01ffffff, true},
		{0x7fffffff, 0x80000000, true},
		{0xfeffffff, 0xff000000, true},
		{0xfe000000, top, true},
		{0, 1<<24 - 1, false},
		{0, 0, false},
		{1 << 24, 1<<24 + 5, false},
		{1 << 24, 1 << 24, false},
		{1 << 24, 1<<24 - 1, false},
		{0xff000000, top, false},
		{top, top, false},
		{top, 0, false},
		{-1, top, false},
		{-1 << 24, 0, false},
		{-1, 0, false},
		{0, -1, false},
		{-1 << 30, -1, false},
		{0, 1 << 32, false},
		{top, 1 << 32, false},
		{1 << 32, 1 << 33, false},
		{math.MinInt, math.MaxInt, false},
		{math.MinInt, top, false},
		{0, math.MaxInt, false},
		{0, math.MinInt, false},
		{math.MaxInt, math.MinInt, false},
	} {
		for _, out := range []string{"", "x", strings.Repeat("\x00", api.MaxText)} {
			isMay(t, api.Coder{Low: c.low, High: c.high, Out: out}, c.want)
		}
		isMay(t, api.Coder{Low: c.low, High: c.high, Out: strings.Repeat("\x00", api.MaxText+1)}, false)
	}
}

// The middles are worked out by hand.
func TestBitsWorkedOutByHand(t *testing.T) {
	for _, c := range []struct {
		from   api.Coder
		bit, p int
		want   api.Coder
	}{
		// r is 1048575 times 4096 and 4095: the middle 1048575 * 2048 and 2047.
		{New(), 1, 2048, api.Coder{Low: 0, High: 0x7fffffff}},
		{New(), 0, 2048, api.Coder{Low: 0x80000000, High: top}},
		// 1048575 and 0: the first byte is settled by bit 1, and goes.
		{New(), 1, 1, api.Coder{Low: 0, High: 0x0fffffff, Out: "\x00"}},
		{New(), 0, 1, api.Coder{Low: 0x00100000, High: top}},
		// 1048575 * 4095 and 4094: bit 0 begins at 0xfff00000, of which the first byte goes.
		{New(), 1, 4095, api.Coder{Low: 0, High: 0xffefffff}},
		{New(), 0, 4095, api.Coder{Low: 0xf0000000, High: top, Out: "\xff"}},
		// Two numbers are left: bit 1 takes the lower one, bit 0 the higher one, each settles four bytes.
		{api.Coder{Low: 0x00ffffff, High: 0x01000000, Out: "a"}, 1, 4095, api.Coder{Low: 0, High: top, Out: "a\x00\xff\xff\xff"}},
		{api.Coder{Low: 0x00ffffff, High: 0x01000000, Out: "a"}, 0, 4095, api.Coder{Low: 0, High: top, Out: "a\x01\x00\x00\x00"}},
		{api.Coder{Low: 0x00ffffff, High: 0x01000000, Out: "a"}, 1, 1, api.Coder{Low: 0, High: top, Out: "a\x00\xff\xff\xff"}},
		{api.Coder{Low: 0x00ffffff, High: 0x01000000, Out: "a"}, 0, 1, api.Coder{Low: 0, High: top, Out: "a\x01\x00\x00\x00"}},
		// Three are left, the middle is the second one: of bit 1's two the highest bytes differ still.
		{api.Coder{Low: 0x7fffffff, High: 0x80000001}, 1, 2048, api.Coder{Low: 0x7fffffff, High: 0x80000000}},
		{api.Coder{Low: 0x7fffffff, High: 0x80000001}, 0, 2048, api.Coder{Low: 0, High: top, Out: "\x80\x00\x00\x01"}},
		{api.Coder{Low: 0x7fffffff, High: 0x80000001}, 1, 2047, api.Coder{Low: 0, High: top, Out: "\x7f\xff\xff\xff"}},
		// Bit 0 leaves 0x80000000 and 0x80000001: three bytes are settled.
		{api.Coder{Low: 0x7fffffff, High: 0x80000001}, 0, 2047, api.Coder{Low: 0x00000000, High: 0x01ffffff, Out: "\x80\x00\x00"}},
	} {
		isCoder(t, c.from, c.bit, c.p, c.want)
	}
}

func TestEveryChance(t *testing.T) {
	for p := 1; p <= api.MaxBit; p++ {
		for _, from := range coders() {
			for bit := range 2 {
				isCoder(t, from, bit, p, plainBit(from, bit, p))
			}
		}
	}
}

func TestManyBits(t *testing.T) {
	for seed := range 300 {
		r := row(seed)
		c := New()
		for range r.below(400) {
			bit, p := r.below(2), r.chance()
			want := plainBit(c, bit, p)
			isCoder(t, c, bit, p, want)
			c = want
		}
		isEnd(t, c)
	}
}

// What is told must tell the bits: a decoder by plain rules finds them again.
func TestWhatIsToldTellsTheBits(t *testing.T) {
	for seed := range 200 {
		r := row(seed)
		many := r.below(600)
		bits, chances := make([]int, many), make([]int, many)
		c := New()
		for i := range many {
			chances[i] = r.chance()
			bits[i] = r.bit(chances[i])
			c, _ = Bit(c, bits[i], chances[i])
		}
		s, e := End(c)
		if e != api.OK {
			t.Fatalf("P4.3: seed %d: %d", seed, e)
		}
		for i, bit := range plainBits(s, chances) {
			if bit != bits[i] {
				t.Fatalf("P4.2: seed %d: bit %d of %d is lost", seed, i, many)
			}
		}
	}
}

// What the layer is for: bits that are likely take few bytes.
func TestLikelyBitsTakeFewBytes(t *testing.T) {
	for bit, p := range []int{1, api.MaxBit} {
		c := New()
		for range 8000 {
			c, _ = Bit(c, bit, p)
		}
		if s, e := End(c); e != api.OK || len(s) > 8 {
			t.Errorf("P4.2: 8000 bits of %d take %d bytes (%d)", bit, len(s), e)
		}
	}
}

func TestOutAtItsGreatestLength(t *testing.T) {
	const low, high = 0x00ffffff, 0x01000000
	for short := range 8 {
		from := api.Coder{Low: low, High: high, Out: strings.Repeat("x", api.MaxText-short)}
		for bit := range 2 {
			if short < 4 {
				isRefused(t, from, bit, 5)
			} else {
				isCoder(t, from, bit, 5, plainBit(from, bit, 5))
			}
		}
		isEnd(t, from)
	}
	full := api.Coder{Low: 0, High: top, Out: strings.Repeat("x", api.MaxText)}
	isCoder(t, full, 1, 2048, plainBit(full, 1, 2048))
	isRefused(t, full, 1, 1)
	full.Out += "x"
	isRefused(t, full, 1, 2048)
	noEnd(t, full)
}

func TestEnd(t *testing.T) {
	for _, c := range []struct {
		from api.Coder
		want string
	}{
		{New(), "\x00\x00\x00\x00"},
		{api.Coder{Low: 0x01020304, High: 0xff000000}, "\x01\x02\x03\x04"},
		{api.Coder{Low: 0xfeffffff, High: top, Out: "ab"}, "ab\xfe\xff\xff\xff"},
		{api.Coder{Low: 0x00000080, High: 0x01000000, Out: "\x00\xff"}, "\x00\xff\x00\x00\x00\x80"},
	} {
		if s, e := End(c.from); s != c.want || e != api.OK {
			t.Errorf("P4.3: %v: %q, %d; want %q", c.from, s, e, c.want)
		}
	}
}

func TestWrongBitsAndChances(t *testing.T) {
	for _, from := range coders() {
		for _, bit := range []int{-1, 2, 3, 256, 257, -2, math.MaxInt, math.MinInt} {
			isRefused(t, from, bit, 2048)
		}
		for _, p := range []int{0, -1, 4096, 4097, 8191, 1 << 32, 1<<32 + 1, math.MaxInt, math.MinInt} {
			isRefused(t, from, 0, p)
			isRefused(t, from, 1, p)
		}
	}
}

func TestCodersThatMayNotBe(t *testing.T) {
	ends := []int{math.MinInt, -1 << 40, -1 << 32, -1 << 24, -1, 0, 1, 1<<24 - 1, 1 << 24, 1<<24 + 1, 0x7fffffff,
		0x80000000, 0xfeffffff, 0xff000000, top, 1 << 32, 1<<32 + 1<<24, 1 << 40, math.MaxInt}
	for _, low := range ends {
		for _, high := range ends {
			c := api.Coder{Low: low, High: high, Out: "ab"}
			if low >= 0 && low <= top && high >= 0 && high <= top && high>>24 > low>>24 {
				isCoder(t, c, 1, 7, plainBit(c, 1, 7))
				isEnd(t, c)
				continue
			}
			isMay(t, c, false)
			isRefused(t, c, 0, 7)
			isRefused(t, c, 1, 7)
			noEnd(t, c)
		}
	}
}

func TestSeveralGoroutinesAtOneTime(t *testing.T) {
	var wait sync.WaitGroup
	for k := range 8 {
		wait.Go(func() {
			r := row(k)
			c := New()
			for range 500 {
				bit, p := r.below(2), r.chance()
				want := plainBit(c, bit, p)
				got, e := Bit(c, bit, p)
				if got != want || e != api.OK {
					t.Errorf("R5: %v: %v, %d", want, got, e)
				}
				c = want
			}
		})
	}
	wait.Wait()
}

// coders are some that may be: wide ones, tight ones, with neighbours as highest bytes.
func coders() []api.Coder {
	return []api.Coder{
		New(),
		{Low: 0x00ffffff, High: 0x01000000},
		{Low: 0x00fffffe, High: 0x01000000, Out: "\x00"},
		{Low: 0x7fffffff, High: 0x80000fff, Out: "abc"},
		{Low: 0x7ffff000, High: 0x80000000, Out: "abc"},
		{Low: 0x7fffffff, High: 0x80ffffff},
		{Low: 0x12345678, High: 0x9abcdef0, Out: "\xff\xff"},
		{Low: 0xfe000001, High: top},
		{Low: 0, High: 1 << 24},
	}
}

// plainBit is chapter 4's Bit in numbers of any size.
func plainBit(c api.Coder, bit int, p int) api.Coder {
	low, high := big.NewInt(int64(c.Low)), big.NewInt(int64(c.High))
	r := new(big.Int).Sub(high, low)
	whole, rest := new(big.Int).DivMod(r, big.NewInt(4096), new(big.Int))
	whole.Mul(whole, big.NewInt(int64(p)))
	rest.Mul(rest, big.NewInt(int64(p))).Div(rest, big.NewInt(4096))
	middle := new(big.Int).Add(low, whole)
	middle.Add(middle, rest)
	l, h := low.Int64(), middle.Int64()
	if bit == 0 {
		l, h = middle.Int64()+1, high.Int64()
	}
	out := []byte(c.Out)
	for l/(1<<24) == h/(1<<24) {
		out = append(out, byte(l/(1<<24)))
		l, h = l%(1<<24)*256, h%(1<<24)*256+255
	}
	return api.Coder{Low: int(l), High: int(h), Out: string(out)}
}

// plainBits finds as many bits as there are chances: a bit is 1, if the text, read as one number, is not above the middle.
func plainBits(s string, chances []int) []int {
	found := make([]int, len(chances))
	c := New()
	for i, p := range chances {
		now := 0
		for k := range 4 {
			now <<= 8
			if at := len(c.Out) + k; at < len(s) {
				now |= int(s[at])
			}
		}
		r := c.High - c.Low
		if now <= c.Low+r/4096*p+r%4096*p/4096 {
			found[i] = 1
		}
		c = plainBit(c, found[i], p)
	}
	return found
}

// row is numbers that look like chance, the same each time.
type row uint64

func (r *row) below(n int) int {
	*r = *r*6364136223846793005 + 1442695040888963407
	return int(uint64(*r) >> 33 % uint64(n))
}

func (r *row) chance() int {
	return []int{1, api.MaxBit, 2048, 1 + r.below(api.MaxBit), 1 + r.below(20), api.MaxBit - r.below(20)}[r.below(6)]
}

// bit is one that comes as its chance has it.
func (r *row) bit(p int) int {
	if r.below(4096) < p {
		return 1
	}
	return 0
}

func isMay(t *testing.T, c api.Coder, want bool) {
	t.Helper()
	if May(c) != want {
		t.Errorf("P4.1: May of %d, %d and %d bytes: want %v", c.Low, c.High, len(c.Out), want)
	}
}

func isCoder(t *testing.T, from api.Coder, bit int, p int, want api.Coder) {
	t.Helper()
	got, e := Bit(from, bit, p)
	if got != want || e != api.OK {
		t.Fatalf("P4.2: %d, %d and %d bytes, bit %d, chance %d: %d, %d and %d bytes, %d; want %d, %d and %d bytes",
			from.Low, from.High, len(from.Out), bit, p, got.Low, got.High, len(got.Out), e, want.Low, want.High, len(want.Out))
	}
	if !May(got) {
		t.Fatalf("P4.2: %d, %d, bit %d, chance %d: what comes may not be", from.Low, from.High, bit, p)
	}
}

func isRefused(t *testing.T, from api.Coder, bit int, p int) {
	t.Helper()
	if got, e := Bit(from, bit, p); got != (api.Coder{}) || e != api.ErrCoderForm {
		t.Errorf("P4.2: %d, %d and %d bytes, bit %d, chance %d: %d, %d and %d bytes, %d; want ErrCoderForm",
			from.Low, from.High, len(from.Out), bit, p, got.Low, got.High, len(got.Out), e)
	}
}

func isEnd(t *testing.T, c api.Coder) {
	t.Helper()
	want := c.Out + string([]byte{byte(c.Low / (1 << 24)), byte(c.Low / (1 << 16)), byte(c.Low / (1 << 8)), byte(c.Low)})
	if s, e := End(c); s != want || e != api.OK {
		t.Fatalf("P4.3: %d, %d and %d bytes: %d bytes, %d; want %d bytes", c.Low, c.High, len(c.Out), len(s), e, len(want))
	}
}

func noEnd(t *testing.T, c api.Coder) {
	t.Helper()
	if s, e := End(c); s != "" || e != api.ErrCoderForm {
		t.Errorf("P4.3: %d, %d and %d bytes: %d bytes, %d; want ErrCoderForm", c.Low, c.High, len(c.Out), len(s), e)
	}
}
