package crc

import (
	"hash/crc32"
	"strings"
	"sync"
	"testing"
)

func TestKnownSums(t *testing.T) {
	for _, c := range []struct {
		s    string
		want int
	}{
		{"", 0},
		{"123456789", 3421780262},
		{"\x00", 0xd202ef8d},
		{"\xff", 0xff000000},
		{"\x00\x00\x00\x00", 0x2144df1c},
		{"\xff\xff\xff\xff", 0xffffffff},
		{"a", 0xe8b7be43},
		{"abc", 0x352441c2},
		{"The quick brown fox jumps over the lazy dog", 0x414fa339},
		{strings.Repeat("\x00", 32), 0x190a55ad},
		{strings.Repeat("\xff", 32), 0xff6cab0b},
	} {
		isSum(t, c.s, c.want)
	}
}

func TestEveryByteAlone(t *testing.T) {
	for b := range 256 {
		isAsTheLibraryHasIt(t, string([]byte{byte(b)}))
	}
}

func TestEveryTextOfTwoBytes(t *testing.T) {
	for first := range 256 {
		for second := range 256 {
			isAsTheLibraryHasIt(t, string([]byte{byte(first), byte(second)}))
		}
	}
}

func TestTextsOfManyLengths(t *testing.T) {
	for n := range 300 {
		isAsTheLibraryHasIt(t, text(n, 7))
		isAsTheLibraryHasIt(t, strings.Repeat("\x00", n))
		isAsTheLibraryHasIt(t, strings.Repeat("\xff", n))
	}
	for _, n := range []int{4095, 4096, 4097, 65535, 65536, 65537, 1 << 20} {
		isAsTheLibraryHasIt(t, text(n, 3))
		isAsTheLibraryHasIt(t, strings.Repeat("\x00", n))
	}
}

// A text is any bytes: the sum must not go rune by rune.
func TestBytesNotRunes(t *testing.T) {
	for _, s := range []string{"\u00e9", "\u4e16\u754c", "\U0001f3b5", "\xc3", "\xe4\xb8", "a\x80b", "\xef\xbf\xbd"} {
		isAsTheLibraryHasIt(t, s)
	}
}

// The bytes that tell a text's sum, the lowest first, laid behind it make one sum of all texts.
func TestASumBehindItsText(t *testing.T) {
	for n := range 100 {
		s := text(n, 11)
		sum := Sum(s)
		isSum(t, s+string([]byte{byte(sum), byte(sum >> 8), byte(sum >> 16), byte(sum >> 24)}), 0x2144df1c)
	}
}

// What the sum is for: a stretch of at most 32 bits that is turned, wherever it stands, changes it.
func TestEveryTurnedStretchIsTold(t *testing.T) {
	s := text(40, 5)
	sum := Sum(s)
	for many := 1; many <= 32; many++ {
		for at := range 8*len(s) - many + 1 {
			for _, inner := range []uint64{0, 0x55555555, 0xaaaaaaaa, 0xdb710641, 0x04c11db7, 0xffffffff} {
				if turned := turn(s, at, many, inner); Sum(turned) == sum {
					t.Fatalf("P3.1: %d bits at %d turned by %x: the sum stays", many, at, inner)
				}
			}
		}
	}
}

func TestSeveralGoroutinesAtOneTime(t *testing.T) {
	var wait sync.WaitGroup
	for k := range 8 {
		wait.Go(func() {
			for n := range 200 {
				s := text(n, k+1)
				if got := Sum(s); got != int(crc32.ChecksumIEEE([]byte(s))) {
					t.Errorf("R5: %q: %d", s, got)
				}
			}
		})
	}
	wait.Wait()
}

// turn turns the first and the last bit of a stretch, and those between that inner names.
func turn(s string, at int, many int, inner uint64) string {
	b := []byte(s)
	for i := range many {
		if i == 0 || i == many-1 || inner>>i&1 != 0 {
			b[(at+i)/8] ^= 1 << ((at + i) % 8)
		}
	}
	return string(b)
}

// text is n bytes that look like chance, the same each time.
func text(n int, seed int) string {
	b := make([]byte, n)
	x := uint32(seed)
	for i := range b {
		x = x*1664525 + 1013904223
		b[i] = byte(x >> 24)
	}
	return string(b)
}

func isAsTheLibraryHasIt(t *testing.T, s string) {
	t.Helper()
	isSum(t, s, int(crc32.ChecksumIEEE([]byte(s))))
}

func isSum(t *testing.T, s string, want int) {
	t.Helper()
	if got := Sum(s); got != want {
		t.Fatalf("P3.1: Sum of %d bytes %.20q: %d; want %d", len(s), s, got, want)
	}
}
