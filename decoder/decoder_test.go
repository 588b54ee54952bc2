package decoder

import (
	"math"
	"math/big"
	"strings"
	"sync"
	"testing"

	"descant/api"
	"descant/coder"
)

const (
	top = 1<<32 - 1
	// last is the greatest At: MaxText and 8.
	last = 65544
)

func TestNew(t *testing.T) {
	for _, c := range []struct {
		s   string
		now int
	}{
		{"", 0},
		{"\x00", 0},
		{"\x01", 0x01000000},
		{"\xff", 0xff000000},
		{"\x12\x34", 0x12340000},
		{"\x00\x00\x01", 0x00000100},
		{"\x12\x34\x56", 0x12345600},
		{"\x12\x34\x56\x78", 0x12345678},
		{"\x00\x00\x00\x01", 1},
		{"\xff\xff\xff\xff", top},
		{"\x12\x34\x56\x78\x9a", 0x12345678},
		{"some text", 0x736f6d65},
		{strings.Repeat("\x80", api.MaxText-1), 0x80808080},
		{strings.Repeat("\x80", api.MaxText), 0x80808080},
	} {
		d, e := New(c.s)
		if want := (api.Decoder{Low: 0, High: top, Now: c.now, Text: c.s, At: 4}); d != want || e != api.OK {
			t.Errorf("P5.1: New of %d bytes: %d, %d, %d, %d bytes, at %d; %d; want Now %d", len(c.s), d.Low, d.High, d.Now, len(d.Text), d.At, e, c.now)
		}
		isMay(t, d, true)
	}
}

func TestTextsThatAreTooLong(t *testing.T) {
	for _, many := range []int{api.MaxText + 1, api.MaxText + 4, api.MaxText + 8, api.MaxText + 9, 2 * api.MaxText} {
		if d, e := New(strings.Repeat("x", many)); d != (api.Decoder{}) || e != api.ErrDecoderForm {
			t.Errorf("P5.1: New of %d bytes: Now %d, at %d; %d; want ErrDecoderForm", many, d.Now, d.At, e)
		}
	}
}

func TestMay(t *testing.T) {
	for _, c := range []struct {
		low, high, now int
		want           bool
	}{
		{0, top, 0, true},
		{0, top, top, true},
		{0, top, 1 << 31, true},
		{0, top, -1, false},
		{0, top, 1 << 32, false},
		{0, top, math.MinInt, false},
		{0, top, math.MaxInt, false},
		{5, top, 4, false},
		{5, top, 5, true},
		{5, top, 0, false},
		{0, 1 << 30, 1 << 30, true},
		{0, 1 << 30, 1<<30 + 1, false},
		{0x00ffffff, 0x01000000, 0x00ffffff, true},
		{0x00ffffff, 0x01000000, 0x01000000, true},
		{0x00ffffff, 0x01000000, 0x00fffffe, false},
		{0x00ffffff, 0x01000000, 0x01000001, false},
		{0xfeffffff, 0xff000000, 0xfeffffff, true},
		{0, 1<<24 - 1, 0, false},
		{1 << 24, 1<<24 + 5, 1 << 24, false},
		{1 << 30, 1 << 20, 1 << 25, false},
		{top, top, top, false},
		{-1, top, 0, false},
		{-1, top, -1, false},
		{0, 1 << 32, 0, false},
		{0, -1, 0, false},
		{1 << 32, 1 << 33, 1 << 32, false},
		{math.MinInt, math.MaxInt, 0, false},
		{math.MaxInt, math.MinInt, 0, false},
	} {
		for _, at := range []int{4, 5, 100, api.MaxText, last - 1, last} {
			isMay(t, api.Decoder{Low: c.low, High: c.high, Now: c.now, Text: "ab", At: at}, c.want)
		}
	}
}

func TestMayByTextAndAt(t *testing.T) {
	for _, many := range []int{0, 1, 4, api.MaxText - 1, api.MaxText, api.MaxText + 1, api.MaxText + 8} {
		for _, at := range []int{math.MinInt, -4, -1, 0, 3, 4, 5, api.MaxText, api.MaxText + 1, last, last + 1, 1 << 32, math.MaxInt} {
			d := api.Decoder{Low: 0, High: top, Now: 9, Text: strings.Repeat("x", many), At: at}
			may := many <= api.MaxText && at >= 4 && at <= last
			isMay(t, d, may)
			if !may {
				isRefused(t, d, 5)
			}
		}
	}
}

// The middles are worked out by hand.
func TestBitsWorkedOutByHand(t *testing.T) {
	const text = "abcdef"
	for _, c := range []struct {
		from api.Decoder
		p    int
		want api.Decoder
		bit  int
	}{
		// The middle is 1048575 * 2048 and 2047: the last number of the lower half.
		{api.Decoder{High: top, Now: 0x7fffffff, Text: text, At: 4}, 2048, api.Decoder{High: 0x7fffffff, Now: 0x7fffffff, Text: text, At: 4}, 1},
		{api.Decoder{High: top, Now: 0x80000000, Text: text, At: 4}, 2048, api.Decoder{Low: 0x80000000, High: top, Now: 0x80000000, Text: text, At: 4}, 0},
		// It is 1048575: bit 1 settles a byte, and the text's fifth comes in.
		{api.Decoder{High: top, Now: 0x000fffff, Text: text, At: 4}, 1, api.Decoder{High: 0x0fffffff, Now: 0x0fffff65, Text: text, At: 5}, 1},
		{api.Decoder{High: top, Now: 0x00100000, Text: text, At: 4}, 1, api.Decoder{Low: 0x00100000, High: top, Now: 0x00100000, Text: text, At: 4}, 0},
		// Two numbers are left, either settles four bytes: two are there, two are not.
		{api.Decoder{Low: 0x00ffffff, High: 0x01000000, Now: 0x00ffffff, Text: text, At: 4}, 5, api.Decoder{High: top, Now: 0x65660000, Text: text, At: 8}, 1},
		{api.Decoder{Low: 0x00ffffff, High: 0x01000000, Now: 0x01000000, Text: text, At: 4}, 5, api.Decoder{High: top, Now: 0x65660000, Text: text, At: 8}, 0},
		// All bytes are behind the text's end.
		{api.Decoder{Low: 0x7fffffff, High: 0x80000000, Now: 0x80000000, Text: text, At: 6}, 4095, api.Decoder{High: top, Now: 0, Text: text, At: 10}, 0},
		{api.Decoder{Low: 0x7fffffff, High: 0x80000000, Now: 0x7fffffff, Text: "", At: 4}, 1, api.Decoder{High: top, Now: 0, Text: "", At: 8}, 1},
		// Three are left: bit 0 leaves 0x80000000 and 0x80000001, three bytes are settled.
		{api.Decoder{Low: 0x7fffffff, High: 0x80000001, Now: 0x80000001, Text: text, At: 5}, 2047, api.Decoder{High: 0x01ffffff, Now: 0x01660000, Text: text, At: 8}, 0},
	} {
		isFound(t, c.from, c.p, c.want, c.bit)
	}
}

// Now is at each end of what is left, at the middle and behind it, with every chance.
func TestEveryChance(t *testing.T) {
	for p := 1; p <= api.MaxBit; p++ {
		for _, from := range decoders() {
			middle := int(plainMiddle(from, p))
			for _, now := range []int{from.Low, middle - 1, middle, middle + 1, from.High} {
				if now < from.Low {
					continue
				}
				from.Now = now
				want, bit := plainBit(from, p)
				if (now <= middle) != (bit == 1) {
					t.Fatalf("the plain rules are wrong at %d", now)
				}
				isFound(t, from, p, want, bit)
			}
		}
	}
}

func TestBitsOfAnyText(t *testing.T) {
	for seed := range 300 {
		r := row(seed)
		d, e := New(r.text(r.below(40)))
		if e != api.OK {
			t.Fatalf("P5.1: seed %d: %d", seed, e)
		}
		for range r.below(400) {
			p := r.chance()
			want, bit := plainBit(d, p)
			isFound(t, d, p, want, bit)
			d = want
		}
	}
}

func TestWhatACoderTellsIsFoundAgain(t *testing.T) {
	for seed := range 300 {
		r := row(seed)
		bits, chances := r.bits(r.below(800))
		isFoundAgain(t, coded(bits, chances), bits, chances)
	}
}

// Unlikely bits alone, likely bits alone: with the least and the greatest chance.
func TestTheLeastAndTheGreatestChance(t *testing.T) {
	for _, p := range []int{1, api.MaxBit} {
		for bit := range 2 {
			for _, many := range []int{0, 1, 2, 100, 5000} {
				bits, chances := make([]int, many), make([]int, many)
				for i := range many {
					bits[i], chances[i] = bit, p
				}
				isFoundAgain(t, coded(bits, chances), bits, chances)
			}
		}
	}
}

// What a coder tells is as long as a text may be.
func TestALongestText(t *testing.T) {
	r := row(7)
	c := coder.New()
	bits, chances := []int{}, []int{}
	take := func(bit int, p int) {
		bits, chances = append(bits, bit), append(chances, p)
		c, _ = coder.Bit(c, bit, p)
	}
	for len(c.Out) < api.MaxText-12 {
		if r.below(2) == 0 {
			take(1, 1+r.below(3))
		} else {
			take(0, api.MaxBit-r.below(3))
		}
	}
	for len(c.Out) < api.MaxText-4 {
		take(r.below(2), 2048)
	}
	s, e := coder.End(c)
	if len(s) != api.MaxText || e != api.OK {
		t.Fatalf("the row of bits tells %d bytes (%d)", len(s), e)
	}
	isFoundAgain(t, s, bits, chances)
}

// Behind a text's end bytes of 0 are taken, until At is as great as it may be.
func TestAtGoesToItsEnd(t *testing.T) {
	for _, many := range []int{0, 1, api.MaxText - 1, api.MaxText} {
		text := strings.Repeat("\xa5", many)
		for at := api.MaxText - 6; at <= last; at++ {
			for bit := range 2 {
				from := api.Decoder{Low: 0x00ffffff, High: 0x01000000, Now: 0x01000000 - bit, Text: text, At: at}
				isMay(t, from, true)
				if at+4 > last {
					isRefused(t, from, 5)
					continue
				}
				want, found := plainBit(from, 5)
				if want.At != at+4 || found != bit {
					t.Fatalf("the plain rules are wrong at %d", at)
				}
				isFound(t, from, 5, want, found)
			}
		}
	}
}

// At its end a decoder finds bits still, as long as none of them settles a byte.
func TestBitsAtTheEnd(t *testing.T) {
	from := api.Decoder{Low: 0, High: top, Now: 0, At: last}
	isFound(t, from, 2048, api.Decoder{Low: 0, High: 0x7fffffff, Now: 0, At: last}, 1)
	isFound(t, from, 4095, api.Decoder{Low: 0, High: 0xffefffff, Now: 0, At: last}, 1)
	isRefused(t, from, 1)
	from.Now = top
	isFound(t, from, 1, api.Decoder{Low: 0x00100000, High: top, Now: top, At: last}, 0)
	isRefused(t, from, 4095)
	from.At--
	isFound(t, from, 4095, api.Decoder{Low: 0xf0000000, High: top, Now: 0xffffff00, At: last}, 0)
}

func TestWrongChances(t *testing.T) {
	for _, from := range decoders() {
		from.Now = from.High
		for _, p := range []int{0, -1, -2048, 4096, 4097, 8191, 1 << 32, 1<<32 + 1, math.MaxInt, math.MinInt} {
			isRefused(t, from, p)
		}
	}
}

func TestDecodersThatMayNotBe(t *testing.T) {
	numbers := []int{math.MinInt, -1 << 32, -1 << 24, -1, 0, 1<<24 - 1, 1 << 24, 1<<24 + 1, 0x80000000,
		0xfeffffff, 0xff000000, top, 1 << 32, 1<<32 + 1<<24, math.MaxInt}
	for _, low := range numbers {
		for _, high := range numbers {
			for _, now := range numbers {
				d := api.Decoder{Low: low, High: high, Now: now, Text: "abcdefgh", At: 6}
				if low >= 0 && high <= top && high>>24 > low>>24 && now >= low && now <= high {
					want, bit := plainBit(d, 7)
					isFound(t, d, 7, want, bit)
					continue
				}
				isMay(t, d, false)
				isRefused(t, d, 7)
			}
		}
	}
	isRefused(t, api.Decoder{}, 7)
}

func TestSeveralGoroutinesAtOneTime(t *testing.T) {
	var wait sync.WaitGroup
	for k := range 8 {
		wait.Go(func() {
			r := row(k)
			d, _ := New(r.text(100))
			for range 500 {
				p := r.chance()
				want, bit := plainBit(d, p)
				got, found, e := Bit(d, p)
				if got != want || found != bit || e != api.OK {
					t.Errorf("R5: %v: %v, %d, %d", want, got, found, e)
				}
				d = want
			}
		})
	}
	wait.Wait()
}

// decoders are some that may be, with Now at Low: wide ones, tight ones, with neighbours as highest bytes.
func decoders() []api.Decoder {
	return []api.Decoder{
		{Low: 0, High: top, Now: 0, Text: "some text", At: 4},
		{Low: 0x00ffffff, High: 0x01000000, Now: 0x00ffffff, Text: "some text", At: 5},
		{Low: 0x00fffffe, High: 0x01000000, Now: 0x00fffffe, Text: "some text", At: 7},
		{Low: 0x7fffffff, High: 0x80000fff, Now: 0x7fffffff, Text: "", At: 4},
		{Low: 0x7ffff000, High: 0x80000000, Now: 0x7ffff000, Text: "\xff\xff\xff\xff\xff", At: 4},
		{Low: 0x12345678, High: 0x9abcdef0, Now: 0x12345678, Text: "some text", At: 9},
		{Low: 0xfe000001, High: top, Now: 0xfe000001, Text: "some text", At: 8},
		{Low: 0, High: 1 << 24, Now: 0, Text: "some text", At: 1000},
	}
}

// plainMiddle is chapter 4's middle in numbers of any size.
func plainMiddle(d api.Decoder, p int) int64 {
	low, high := big.NewInt(int64(d.Low)), big.NewInt(int64(d.High))
	r := new(big.Int).Sub(high, low)
	whole, rest := new(big.Int).DivMod(r, big.NewInt(4096), new(big.Int))
	whole.Mul(whole, big.NewInt(int64(p)))
	rest.Mul(rest, big.NewInt(int64(p))).Div(rest, big.NewInt(4096))
	return low.Add(low, whole).Add(low, rest).Int64()
}

// plainBit is chapter 5's Bit by its words, but for what it refuses.
func plainBit(d api.Decoder, p int) (api.Decoder, int) {
	middle, bit := plainMiddle(d, p), 0
	low, high, now := int64(d.Low), int64(d.High), int64(d.Now)
	if now <= middle {
		high, bit = middle, 1
	} else {
		low = middle + 1
	}
	at := d.At
	for low/(1<<24) == high/(1<<24) {
		low, high, now = low%(1<<24)*256, high%(1<<24)*256+255, now%(1<<24)*256
		if at < len(d.Text) {
			now += int64(d.Text[at])
		}
		at++
	}
	return api.Decoder{Low: int(low), High: int(high), Now: int(now), Text: d.Text, At: at}, bit
}

func coded(bits []int, chances []int) string {
	c := coder.New()
	for i := range bits {
		c, _ = coder.Bit(c, bits[i], chances[i])
	}
	s, _ := coder.End(c)
	return s
}

// row is numbers that look like chance, the same each time.
type row uint64

func (r *row) below(n int) int {
	*r = *r*6364136223846793005 + 1442695040888963407
	return int(uint64(*r) >> 33 % uint64(n))
}

func (r *row) chance() int {
	return []int{1, api.MaxBit, 2048, 1 + r.below(api.MaxBit), 1 + r.below(20), api.MaxBit - r.below(20)}[r.below(6)]
}

func (r *row) text(many int) string {
	b := make([]byte, many)
	for i := range b {
		b[i] = byte(r.below(256))
	}
	return string(b)
}

// bits are so many, some as their chances have it, some not.
func (r *row) bits(many int) ([]int, []int) {
	bits, chances := make([]int, many), make([]int, many)
	for i := range many {
		chances[i] = r.chance()
		bits[i] = r.below(2)
		if r.below(3) > 0 {
			bits[i] = 0
			if r.below(4096) < chances[i] {
				bits[i] = 1
			}
		}
	}
	return bits, chances
}

func isMay(t *testing.T, d api.Decoder, want bool) {
	t.Helper()
	if May(d) != want {
		t.Errorf("P5.1: May of %d, %d, %d, %d bytes, at %d: want %v", d.Low, d.High, d.Now, len(d.Text), d.At, want)
	}
}

func isFound(t *testing.T, from api.Decoder, p int, want api.Decoder, bit int) {
	t.Helper()
	got, found, e := Bit(from, p)
	if got != want || found != bit || e != api.OK {
		t.Fatalf("P5.2: %d, %d, %d, at %d, chance %d: %d, %d, %d, at %d, bit %d, %d; want %d, %d, %d, at %d, bit %d",
			from.Low, from.High, from.Now, from.At, p, got.Low, got.High, got.Now, got.At, found, e, want.Low, want.High, want.Now, want.At, bit)
	}
	if !May(got) {
		t.Fatalf("P5.2: %d, %d, %d, at %d, chance %d: what comes may not be", from.Low, from.High, from.Now, from.At, p)
	}
}

func isRefused(t *testing.T, from api.Decoder, p int) {
	t.Helper()
	if got, bit, e := Bit(from, p); got != (api.Decoder{}) || bit != 0 || e != api.ErrDecoderForm {
		t.Errorf("P5.2: %d, %d, %d, %d bytes, at %d, chance %d: %d, %d, %d, at %d, bit %d, %d; want ErrDecoderForm",
			from.Low, from.High, from.Now, len(from.Text), from.At, p, got.Low, got.High, got.Now, got.At, bit, e)
	}
}

func isFoundAgain(t *testing.T, s string, bits []int, chances []int) {
	t.Helper()
	d, e := New(s)
	if e != api.OK {
		t.Fatalf("P5.3: New of %d bytes: %d", len(s), e)
	}
	for i, p := range chances {
		next, bit, e := Bit(d, p)
		if bit != bits[i] || e != api.OK {
			t.Fatalf("P5.3: bit %d of %d in %d bytes: %d, %d; want %d", i, len(bits), len(s), bit, e, bits[i])
		}
		d = next
	}
	if d.At != len(s) {
		t.Fatalf("P5.2: %d of %d bytes were taken", d.At, len(s))
	}
}
