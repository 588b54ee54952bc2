package field

import (
	"math"
	"strings"
	"sync"
	"testing"

	"descant/api"
)

func TestPutTellsTheLowestByteFirst(t *testing.T) {
	for _, c := range []struct {
		x, many int
		want    string
	}{
		{0, 1, "\x00"},
		{0, 2, "\x00\x00"},
		{0, 3, "\x00\x00\x00"},
		{0, 4, "\x00\x00\x00\x00"},
		{1, 1, "\x01"},
		{1, 4, "\x01\x00\x00\x00"},
		{127, 1, "\x7f"},
		{128, 1, "\x80"},
		{255, 1, "\xff"},
		{255, 2, "\xff\x00"},
		{256, 2, "\x00\x01"},
		{0x1234, 2, "\x34\x12"},
		{0x1234, 3, "\x34\x12\x00"},
		{65535, 2, "\xff\xff"},
		{65536, 3, "\x00\x00\x01"},
		{0x123456, 3, "\x56\x34\x12"},
		{1<<24 - 1, 3, "\xff\xff\xff"},
		{1 << 24, 4, "\x00\x00\x00\x01"},
		{0x12345678, 4, "\x78\x56\x34\x12"},
		{1 << 31, 4, "\x00\x00\x00\x80"},
		{1<<32 - 1, 4, "\xff\xff\xff\xff"},
	} {
		if got, e := Put(c.x, c.many); got != c.want || e != api.OK {
			t.Errorf("P1.1: Put(%d, %d): %q, %d; want %q, 0", c.x, c.many, got, e, c.want)
		}
		if got, e := Get(c.want); got != c.x || e != api.OK {
			t.Errorf("P1.1: Get(%q): %d, %d; want %d, 0", c.want, got, e, c.x)
		}
	}
}

func TestPutRefusesLengthsThatAreNone(t *testing.T) {
	for _, many := range []int{math.MinInt, math.MinInt + 1, -8, -1, 0, 5, 6, 7, 8, 64, math.MaxInt - 1, math.MaxInt} {
		for _, x := range []int{math.MinInt, -1, 0, 1, 255, 1 << 32, math.MaxInt} {
			if got, e := Put(x, many); got != "" || e != api.ErrFieldForm {
				t.Errorf("P1.1: Put(%d, %d): %q, %d", x, many, got, e)
			}
		}
	}
}

func TestPutRefusesNumbersThatDoNotFit(t *testing.T) {
	for many := 1; many <= api.MaxField; many++ {
		most := 1<<(8*many) - 1
		if got, e := Put(most, many); got != strings.Repeat("\xff", many) || e != api.OK {
			t.Errorf("P1.1: Put(%d, %d): %q, %d", most, many, got, e)
		}
		for _, x := range []int{math.MinInt, -most - 1, -most, -256, -1, most + 1, most + 2, 1 << 40, 1 << 62, math.MaxInt} {
			if got, e := Put(x, many); got != "" || e != api.ErrFieldForm {
				t.Errorf("P1.1: Put(%d, %d): %q, %d", x, many, got, e)
			}
		}
	}
}

func TestGetRefusesLengthsThatAreNone(t *testing.T) {
	for _, many := range []int{0, 5, 6, 7, 8, 9, 16, 4096, 65536} {
		for _, b := range []string{"\x00", "\x01", "\xff"} {
			if got, e := Get(strings.Repeat(b, many)); got != 0 || e != api.ErrFieldForm {
				t.Errorf("P1.1: Get of %d bytes %q: %d, %d", many, b, got, e)
			}
		}
	}
}

func TestAllOfOneAndTwoBytesComeBack(t *testing.T) {
	for many := 1; many <= 2; many++ {
		for x := range 1 << (8 * many) {
			comesBack(t, x, many)
		}
	}
}

func TestSomeOfThreeAndFourBytesComeBack(t *testing.T) {
	for many := 3; many <= 4; many++ {
		for x := 0; x < 1<<(8*many); x += 1 + 1<<(8*many-13) {
			comesBack(t, x, many)
		}
	}
}

// comesBack asks that x in many bytes is so long, is its bytes by division, and is read as x.
func comesBack(t *testing.T, x int, many int) {
	t.Helper()
	s, e := Put(x, many)
	if len(s) != many || e != api.OK {
		t.Fatalf("P1.1: Put(%d, %d): %q, %d", x, many, s, e)
	}
	rest := x
	for i := range many {
		if int(s[i]) != rest%256 {
			t.Fatalf("P1.1: Put(%d, %d): %q: byte %d", x, many, s, i)
		}
		rest /= 256
	}
	if back, e := Get(s); back != x || e != api.OK {
		t.Fatalf("P1.1: Get(%q): %d, %d; want %d", s, back, e, x)
	}
}

func TestSeveralGoroutinesAtOneTime(t *testing.T) {
	var wait sync.WaitGroup
	for k := range 8 {
		wait.Go(func() {
			for i := range 1000 {
				x := i*8 + k
				s, e := Put(x, 2)
				if back, f := Get(s); e != api.OK || f != api.OK || back != x {
					t.Errorf("R5: %d: %q, %d, %d, %d", x, s, e, back, f)
				}
			}
		})
	}
	wait.Wait()
}
