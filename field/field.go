// Package field: numbers in a given count of bytes, the lowest byte first. See DOC.md, chapter 1.
package field

import (
	"descant/api"
)

// Put tells x in many bytes, the lowest first.
func Put(x int, many int) (string, api.Errno) {
	if !mayBeLength(many) || !fits(x, many) {
		return "", api.ErrFieldForm
	}
	told := make([]byte, many)
	for i := range many {
		told[i] = byte(x >> (8 * i))
	}
	return string(told), api.OK
}

// Get reads the number that Put tells as s.
func Get(s string) (int, api.Errno) {
	if !mayBeLength(len(s)) {
		return 0, api.ErrFieldForm
	}
	x := 0
	for i := range len(s) {
		x |= int(s[i]) << (8 * i)
	}
	return x, api.OK
}

// mayBeLength: a field has 1 to api.MaxField bytes.
func mayBeLength(many int) bool {
	return many >= 1 && many <= api.MaxField
}

// fits asks by shifting x down, not by shifting 1 up: that cannot overflow. The caller has asked many already, for a
// shift by a number below 0 panics.
func fits(x int, many int) bool {
	return x >= 0 && x>>(8*many) == 0
}
