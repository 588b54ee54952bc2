package varint

import (
	"math"
	"strings"
	"sync"
	"testing"

	"descant/api"
)

func TestPutTellsSevenBitsAByte(t *testing.T) {
	for _, c := range []struct {
		x    int
		want string
	}{
		{0, "\x00"},
		{1, "\x01"},
		{100, "\x64"},
		{127, "\x7f"},
		{128, "\x80\x01"},
		{129, "\x81\x01"},
		{255, "\xff\x01"},
		{256, "\x80\x02"},
		{300, "\xac\x02"},
		{16383, "\xff\x7f"},
		{16384, "\x80\x80\x01"},
		{16385, "\x81\x80\x01"},
		{1<<21 - 1, "\xff\xff\x7f"},
		{1 << 21, "\x80\x80\x80\x01"},
		{0x1234567, "\xe7\x8a\x8d\x09"},
		{1<<28 - 1, "\xff\xff\xff\x7f"},
		{1 << 28, "\x80\x80\x80\x80\x01"},
		{1<<31 - 1, "\xff\xff\xff\xff\x07"},
		{1 << 31, "\x80\x80\x80\x80\x08"},
		{1<<32 - 2, "\xfe\xff\xff\xff\x0f"},
		{1<<32 - 1, "\xff\xff\xff\xff\x0f"},
	} {
		if got, e := Put(c.x); got != c.want || e != api.OK {
			t.Errorf("P2.1: Put(%d): %q, %d; want %q, 0", c.x, got, e, c.want)
		}
		isRead(t, c.want, 0, c.x, len(c.want))
	}
}

func TestPutRefusesNumbersThatMayNotBe(t *testing.T) {
	for _, x := range []int{math.MinInt, -1 << 33, -1 << 32, 1 - 1<<32, -1 << 31, -128, -127, -1,
		1 << 32, 1<<32 + 1, 1 << 33, 1 << 35, 1 << 62, math.MaxInt} {
		if got, e := Put(x); got != "" || e != api.ErrVarintForm {
			t.Errorf("P2.1: Put(%d): %q, %d", x, got, e)
		}
	}
}

func TestGetReadsAtAPlace(t *testing.T) {
	s := "\xff\x05\xac\x02\x00\xff\xff\xff\xff\x0f\x80"
	isRead(t, s, 0, 767, 2)
	isRead(t, s, 1, 5, 2)
	isRead(t, s, 2, 300, 4)
	isRead(t, s, 3, 2, 4)
	isRead(t, s, 4, 0, 5)
	isRead(t, s, 5, 1<<32-1, 10)
	isRead(t, s, 6, 1<<25-1, 10)
	isRead(t, s, 9, 15, 10)
	isRefused(t, s, 10)
	isRefused(t, s, 11)
}

func TestGetRefusesPlacesOutsideTheText(t *testing.T) {
	for _, s := range []string{"", "\x00", "ab", "\x80\x01", strings.Repeat("\x01", 4096)} {
		for _, at := range []int{math.MinInt, math.MinInt + 1, -len(s) - 1, -2, -1, len(s), len(s) + 1, len(s) + 5,
			1 << 31, 1 << 32, 1 << 62, math.MaxInt - 5, math.MaxInt - 1, math.MaxInt} {
			isRefused(t, s, at)
		}
	}
}

func TestGetRefusesWhatPutDoesNotTell(t *testing.T) {
	for _, s := range []string{
		// cut short
		"\x80", "\xff", "\x80\x80", "\x81\x80", "\xff\xff\xff", "\x80\x80\x80\x80", "\xff\xff\xff\xff",
		// longer than need be
		"\x80\x00", "\x81\x00", "\xff\x00", "\x80\x80\x00", "\xff\xff\x00", "\x80\x81\x00", "\x80\x80\x80\x00",
		"\xff\xff\xff\x00", "\x80\x80\x80\x80\x00", "\xff\xff\xff\xff\x00", "\xff\xff\xff\xff\x8f\x00",
		// above the greatest
		"\x80\x80\x80\x80\x10", "\xff\xff\xff\xff\x10", "\xff\xff\xff\xff\x1f", "\x80\x80\x80\x80\x20",
		"\x80\x80\x80\x80\x40", "\xff\xff\xff\xff\x7f",
		// without an end
		"\x80\x80\x80\x80\x80", "\xff\xff\xff\xff\xff", "\x80\x80\x80\x80\x80\x00", "\x80\x80\x80\x80\x80\x01",
		"\xff\xff\xff\xff\xff\xff\xff\xff\xff\x01", strings.Repeat("\x80", 4096), strings.Repeat("\xff", 65536),
		// so long that the last bits are shifted out of an int
		strings.Repeat("\x80", 9) + "\x02", "\x85" + strings.Repeat("\x80", 8) + "\x02",
		strings.Repeat("\x80", 10) + "\x01", "\xff" + strings.Repeat("\x80", 4095) + "\x7f",
	} {
		isRefused(t, s, 0)
		isRefused(t, "\x01\x80"+s, 2)
	}
}

func TestEveryFifthByte(t *testing.T) {
	for _, ahead := range []string{"\x80\x80\x80\x80", "\xff\xff\xff\xff", "\x81\x82\x83\x84"} {
		for b := range 256 {
			s := ahead + string([]byte{byte(b)}) + "\x01"
			if b < 1 || b > 15 {
				isRefused(t, s, 0)
				continue
			}
			x := b << 28
			for i := range 4 {
				x += int(ahead[i]-128) << (7 * i)
			}
			isRead(t, s, 0, x, 5)
		}
	}
}

func TestEveryTextOfTwoBytes(t *testing.T) {
	for first := range 256 {
		for second := range 256 {
			s := string([]byte{byte(first), byte(second)})
			switch {
			case first < 128:
				isRead(t, s, 0, first, 1)
			case second > 0 && second < 128:
				isRead(t, s, 0, first-128+128*second, 2)
			default:
				isRefused(t, s, 0)
			}
		}
	}
}

func TestNumbersComeBackInAsFewBytesAsMayBe(t *testing.T) {
	for x := range 1 << 17 {
		comesBack(t, x)
	}
	for x := 0; x < 1<<32; x += 65521 {
		comesBack(t, x)
	}
	for k := range 33 {
		for x := max(0, 1<<k-3); x < min(1<<32, 1<<k+3); x++ {
			comesBack(t, x)
		}
	}
}

// comesBack asks that x takes a byte for each seven bits that it has, and is read as x wherever it stands.
func comesBack(t *testing.T, x int) {
	t.Helper()
	many := 1
	for rest := x / 128; rest > 0; rest /= 128 {
		many++
	}
	s, e := Put(x)
	if len(s) != many || e != api.OK {
		t.Fatalf("P2.1: Put(%d): %q, %d; want %d bytes", x, s, e, many)
	}
	isRead(t, s, 0, x, many)
	isRead(t, "\xff"+s+"\xff", 1, x, 1+many)
	isRefused(t, s[:many-1], 0)
}

func isRead(t *testing.T, s string, at int, want int, end int) {
	t.Helper()
	if x, next, e := Get(s, at); x != want || next != end || e != api.OK {
		t.Fatalf("P2.1: Get(%q, %d): %d, %d, %d; want %d, %d, 0", s, at, x, next, e, want, end)
	}
}

func isRefused(t *testing.T, s string, at int) {
	t.Helper()
	if x, next, e := Get(s, at); x != 0 || next != 0 || e != api.ErrVarintForm {
		t.Fatalf("P2.1: Get of %d bytes %.20q, %d: %d, %d, %d", len(s), s, at, x, next, e)
	}
}

func TestSeveralGoroutinesAtOneTime(t *testing.T) {
	var wait sync.WaitGroup
	for k := range 8 {
		wait.Go(func() {
			for i := range 1000 {
				x := i*8 + k
				s, e := Put(x)
				if back, end, f := Get(s, 0); e != api.OK || f != api.OK || back != x || end != len(s) {
					t.Errorf("R5: %d: %q, %d, %d, %d, %d", x, s, e, back, end, f)
				}
			}
		})
	}
	wait.Wait()
}
