// Package ints is layer 1: shifts and conversions: see shared/doc/01-ints.md.
package ints

import "warren/api"

const (
	width   = 64 // bits of a number
	most    = 8  // bytes of a number
	longest = 64 // bytes that Put adds, at most
)

// Put are bytes with a number of so many bytes behind, the highest first.
func Put(b []byte, v uint64, size int) []byte {
	if size < 1 || size > longest {
		size = 0
	}
	// Made at its full length, so that the answer shares no spare room with b.
	out := make([]byte, len(b)+size)
	copy(out, b)
	for i := len(out) - 1; i >= len(b); i-- {
		out[i] = byte(v)
		v >>= 8
	}
	return out
}

// Get is the number of bytes, the highest first.
func Get(b []byte) (uint64, error) {
	if len(b) < 1 || len(b) > most {
		return 0, api.ErrArg
	}
	var v uint64
	for _, c := range b {
		v = v<<8 | uint64(c)
	}
	return v, nil
}

// Small is a number as one of so many bits, if it is one.
func Small(n int64, bits int) (uint64, error) {
	if !isWidth(bits) {
		return 0, api.ErrArg
	}
	if n < 0 || !within(uint64(n), bits) {
		return 0, api.ErrRange
	}
	return uint64(n), nil
}

// Signed is a number of so many bits as one with a sign.
func Signed(v uint64, bits int) (int64, error) {
	if !isWidth(bits) {
		return 0, api.ErrArg
	}
	if !within(v, bits) {
		return 0, api.ErrRange
	}
	// A signed number that is shifted to the right repeats its sign; so the bit in
	// the place bits - 1 is moved to where the sign stands first.
	rest := width - bits
	return int64(v<<rest) >> rest, nil
}

// isWidth tells whether a number may have so many bits.
func isWidth(bits int) bool { return bits >= 1 && bits <= width }

// within tells whether a number is below 2^bits; of 64 bits each one is, for such a shift leaves 0.
func within(v uint64, bits int) bool { return v>>bits == 0 }

// Up is the least multiple of a power of two that is not below a number.
func Up(n uint64, shift int) (uint64, error) {
	if shift < 0 || shift >= width {
		return 0, api.ErrArg
	}
	low := uint64(1)<<shift - 1
	if n&low == 0 {
		return n, nil
	}
	up := (n | low) + 1
	// n is above 0 here, so a multiple that has become 0 is 2^64, wrapped round.
	if up == 0 {
		return 0, api.ErrRange
	}
	return up, nil
}
