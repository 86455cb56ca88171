package ints

import "math/bits"

// Ones is how many bits are set.
func Ones(v uint64) int { return bits.OnesCount64(v) }

// Lowest is the place of the lowest bit that is set; below 0: there is none.
func Lowest(v uint64) int {
	if v == 0 {
		return -1
	}
	return bits.TrailingZeros64(v)
}

// Highest is the place of the highest bit that is set; below 0: there is none.
func Highest(v uint64) int { return bits.Len64(v) - 1 }
