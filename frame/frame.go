// Package frame: how many bytes a frame has, which is a sample of each channel, one behind the other. Several layers count in
// frames. See DOC.md, chapter 19.
package frame

import (
	"descant/api"
)

const bitsOfByte = 8

// Bytes is how many a frame has. It is asked of a format that may be: so they are whole, and not 0.
func Bytes(f api.Format) int {
	return f.Channels * f.Bits / bitsOfByte
}
