// Package span: the numbers that are left to a coder, from a low one to a high one. A coder and its decoder narrow
// them alike, bit by bit. See DOC.md, chapters 4 and 5.
package span

import (
	"descant/api"
)

const (
	bitsOfByte   = 8
	bitsOfNumber = 32
	// highestByte is where a number's highest byte begins.
	highestByte = bitsOfNumber - bitsOfByte
	greatest    = 1<<bitsOfNumber - 1
	// ofChances: a chance is so many of these.
	ofChances = api.MaxBit + 1
)

// Span is all numbers from Low to High, both among them.
type Span struct {
	Low  int
	High int
}

// Whole is where each coder begins.
func Whole() Span {
	return Span{Low: 0, High: greatest}
}

// IsChance says whether p may be the chance that a bit is 1: neither bit is ever ruled out.
func IsChance(p int) bool {
	return p >= 1 && p <= api.MaxBit
}

// May says whether s may be between two bits. Low below High is enough for Low's upper end.
func (s Span) May() bool {
	return s.Low >= 0 && s.High <= greatest && s.High>>highestByte > s.Low>>highestByte
}

// Middle is the last number that stands for a bit of 1. It is below High, as a chance is less than the whole: so both
// bits have a number left.
func (s Span) Middle(p int) int {
	r := s.High - s.Low
	return s.Low + r/ofChances*p + r%ofChances*p/ofChances
}

// Narrow keeps what stands for the bit.
func (s Span) Narrow(bit int, p int) Span {
	middle := s.Middle(p)
	if bit == 1 {
		return Span{Low: s.Low, High: middle}
	}
	return Span{Low: middle + 1, High: s.High}
}

// IsSettled says whether the highest byte is the same for all that is left. After Narrow that is so four times at most:
// behind them stands the whole.
func (s Span) IsSettled() bool {
	return s.Low>>highestByte == s.High>>highestByte
}

// Settled is that byte.
func (s Span) Settled() byte {
	return byte(s.Low >> highestByte)
}

// Up lets the highest byte go; behind it every byte may follow.
func (s Span) Up() Span {
	return Span{Low: Push(s.Low, 0), High: Push(s.High, 0xff)}
}

// Push takes a byte in behind a number's others and lets its highest go.
func Push(x int, b byte) int {
	return x<<bitsOfByte&greatest | int(b)
}
