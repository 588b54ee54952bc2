package span

import (
	"math"
	"testing"

	"descant/api"
)

const top = 1<<32 - 1

func TestChances(t *testing.T) {
	for _, p := range []int{1, 2, 2048, 4094, 4095} {
		if !IsChance(p) {
			t.Errorf("P4.2: %d is a chance", p)
		}
	}
	for _, p := range []int{0, -1, 4096, math.MinInt, math.MaxInt} {
		if IsChance(p) {
			t.Errorf("P4.2: %d is no chance", p)
		}
	}
}

// Both bits keep a number, whatever the chance; together they keep all.
func TestBothBitsKeepSome(t *testing.T) {
	for _, s := range []Span{Whole(), {0x00ffffff, 0x01000000}, {0x7fffffff, 0x80000fff}, {0x7ffff000, 0x80000000},
		{0x7fff0000, 0x8000ffff}, {0, 1 << 24}, {0xfeffffff, top}} {
		for p := 1; p <= api.MaxBit; p++ {
			one, zero := s.Narrow(1, p), s.Narrow(0, p)
			if one.Low != s.Low || one.High < one.Low || zero.High != s.High || zero.High < zero.Low || one.High+1 != zero.Low {
				t.Fatalf("P4.2: %v by %d: %v and %v", s, p, one, zero)
			}
			if s.Middle(p) != one.High {
				t.Fatalf("P4.2: %v by %d: the middle is %d, bit 1's High %d", s, p, s.Middle(p), one.High)
			}
		}
	}
}

func TestSettledBytesGo(t *testing.T) {
	for _, c := range []struct {
		from Span
		told byte
		want Span
	}{
		{Span{0, 0}, 0, Span{0, 0xff}},
		{Span{top, top}, 0xff, Span{0xffffff00, top}},
		{Span{0x12345678, 0x12ffffff}, 0x12, Span{0x34567800, top}},
		{Span{0x80000000, 0x80000000}, 0x80, Span{0, 0xff}},
	} {
		if !c.from.IsSettled() || c.from.Settled() != c.told || c.from.Up() != c.want {
			t.Errorf("P4.2: %v: %v, %d, %v; want %d, %v", c.from, c.from.IsSettled(), c.from.Settled(), c.from.Up(), c.told, c.want)
		}
	}
	for _, s := range []Span{Whole(), {0x00ffffff, 0x01000000}, {0xfeffffff, 0xff000000}} {
		if s.IsSettled() || !s.May() {
			t.Errorf("P4.2: %v: nothing of it is settled", s)
		}
	}
}
