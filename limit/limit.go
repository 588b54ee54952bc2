// Package limit: how far from 0 a number may be, to either side alike. Several layers have such limits.
package limit

// A Limit is the greatest number that may be; below 0 it is as far.
type Limit int

// IsPassed asks either side by itself: the least int has no other side.
func (l Limit) IsPassed(x int) bool {
	return x < -int(l) || x > int(l)
}

// Hold is x, or the end that it is beyond.
func (l Limit) Hold(x int) int {
	return max(-int(l), min(x, int(l)))
}
