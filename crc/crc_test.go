package crc_test

import (
	"bytes"
	"errors"
	"math"
	"slices"
	"testing"

	"warren/api"
	"warren/crc"
)

// plain is the sum of bytes, bit by bit, as the chapter tells it.
func plain(b []byte) uint32 { return ^moved(math.MaxUint32, b) }

// moved is what a sum that is not turned about yet becomes by bytes.
func moved(sum uint32, b []byte) uint32 {
	for _, c := range b {
		sum ^= uint32(c)
		for range 8 {
			went := sum & 1
			sum >>= 1
			if went == 1 {
				sum ^= 0x82f63b78
			}
		}
	}
	return sum
}

// bytesOf are so many bytes, each seed another row.
func bytesOf(n int, seed uint32) []byte {
	b := make([]byte, n)
	for i := range b {
		seed = seed*1664525 + 1013904223
		b[i] = byte(seed >> 24)
	}
	return b
}

// samples are rows of bytes: none, each byte alone, alike ones, and mixed ones of many lengths.
func samples() [][]byte {
	l := [][]byte{nil, {}, []byte("123456789"), []byte("warren")}
	for c := range 256 {
		l = append(l, []byte{byte(c)}, []byte{0, byte(c)}, []byte{byte(c), 0, 255})
	}
	for n := range 70 {
		l = append(l, make([]byte, n), bytes.Repeat([]byte{255}, n), bytesOf(n, uint32(n)))
	}
	return append(l, bytesOf(504, 1), bytesOf(512, 2), bytesOf(1<<16+3, 3))
}

// sealed are bytes with their sum behind them, the highest first.
func sealed(b []byte) []byte {
	s := plain(b)
	return append(slices.Clone(b), byte(s>>24), byte(s>>16), byte(s>>8), byte(s))
}

// TestKnown: CR1, sums that are known from elsewhere.
func TestKnown(t *testing.T) {
	up := make([]byte, 32)
	for i := range up {
		up[i] = byte(i)
	}
	down := slices.Clone(up)
	slices.Reverse(down)
	for _, c := range []struct {
		b    []byte
		want uint32
	}{
		{nil, 0},
		{[]byte{}, 0},
		{[]byte("a"), 0xc1d04330},
		{[]byte("123456789"), 0xe3069283},
		{make([]byte, 32), 0x8a9136aa},
		{bytes.Repeat([]byte{255}, 32), 0x62a8ab43},
		{up, 0x46dd794e},
		{down, 0x113fdb5c},
	} {
		if got := crc.Sum(c.b); got != c.want {
			t.Errorf("Sum(%v): %08x, not %08x", c.b, got, c.want)
		}
	}
}

// TestSum: CR1, held against the sum bit by bit.
func TestSum(t *testing.T) {
	for _, b := range samples() {
		was := slices.Clone(b)
		got := crc.Sum(b)
		if want := plain(b); got != want {
			t.Errorf("Sum of %d bytes: %08x, not %08x", len(b), got, want)
		}
		if !bytes.Equal(b, was) {
			t.Errorf("Sum changes what was handed in: %v", was)
		}
	}
}

// TestMore: CR1, the sum of what had a sum, and bytes behind it; of each number that a sum may be.
func TestMore(t *testing.T) {
	for _, sum := range []uint32{0, 1, 255, 1 << 31, 0x82f63b78, 0xe3069283, math.MaxUint32 - 1, math.MaxUint32} {
		for _, b := range samples() {
			was := slices.Clone(b)
			got := crc.More(sum, b)
			if want := ^moved(^sum, b); got != want {
				t.Errorf("More(%08x, %d bytes): %08x, not %08x", sum, len(b), got, want)
			}
			if !bytes.Equal(b, was) {
				t.Errorf("More changes what was handed in: %v", was)
			}
		}
		if crc.More(sum, nil) != sum || crc.More(sum, []byte{}) != sum {
			t.Errorf("More(%08x) of nothing is another", sum)
		}
	}
}

// TestPieces: CR2, summed piece by piece it is the same, wherever it is parted.
func TestPieces(t *testing.T) {
	b := bytesOf(100, 7)
	want := plain(b)
	for i := range len(b) + 1 {
		for k := i; k <= len(b); k++ {
			got := crc.More(crc.More(crc.Sum(b[:i]), b[i:k]), b[k:])
			if got != want {
				t.Fatalf("parted at %d and %d: %08x, not %08x", i, k, got, want)
			}
		}
	}
	one := crc.Sum(nil)
	for i := range b {
		one = crc.More(one, b[i:i+1])
	}
	if one != want {
		t.Errorf("byte by byte: %08x, not %08x", one, want)
	}
}

// TestNoughts: CR1, noughts behind bytes, from none to as many as may be.
func TestNoughts(t *testing.T) {
	for _, b := range [][]byte{nil, {0}, {255}, []byte("123456789"), bytesOf(504, 4)} {
		sum := plain(b)
		for _, n := range []int{0, 1, 2, 3, 4, 7, 8, 64, 100, 504, 512, 4096, 65535, 65536} {
			got, err := crc.Noughts(sum, n)
			want := plain(slices.Concat(b, make([]byte, n)))
			if got != want || err != nil {
				t.Errorf("Noughts(%08x, %d): %08x, %v, not %08x", sum, n, got, err, want)
			}
		}
	}
	for _, sum := range []uint32{0, 1, math.MaxUint32} {
		if got, err := crc.Noughts(sum, 0); got != sum || err != nil {
			t.Errorf("Noughts(%08x, 0): %08x, %v", sum, got, err)
		}
	}
}

// TestNoughtsPieces: CR2, noughts that are summed by pieces.
func TestNoughtsPieces(t *testing.T) {
	want, _ := crc.Noughts(crc.Sum([]byte("warren")), 300)
	for n := range 301 {
		one, _ := crc.Noughts(crc.Sum([]byte("warren")), n)
		two, _ := crc.Noughts(one, 300-n)
		if two != want || crc.More(one, make([]byte, 300-n)) != want {
			t.Errorf("%d noughts first: %08x, not %08x", n, two, want)
		}
	}
}

// TestNoughtsWrong: CR1, numbers of noughts that may not be.
func TestNoughtsWrong(t *testing.T) {
	for _, n := range []int{math.MinInt, -65536, -1, 65537, 1 << 17, 1 << 32, math.MaxInt} {
		for _, sum := range []uint32{0, 1, math.MaxUint32} {
			got, err := crc.Noughts(sum, n)
			var no api.Errno
			if !errors.As(err, &no) || no != api.ErrArg || got != 0 {
				t.Errorf("Noughts(%08x, %d): %08x, %v", sum, n, got, err)
			}
		}
	}
}

// TestIs: CR1, bytes with their sum behind them, and with each other end.
func TestIs(t *testing.T) {
	for _, b := range samples() {
		good := sealed(b)
		was := slices.Clone(good)
		if !crc.Is(good) {
			t.Errorf("Is(%v) is not told", good)
		}
		if !bytes.Equal(good, was) {
			t.Errorf("Is changes what was handed in: %v", was)
		}
		if low := slices.Clone(good); plain(b) != 0 {
			slices.Reverse(low[len(b):])
			if !bytes.Equal(low, good) && crc.Is(low) {
				t.Errorf("Is(%v), the lowest first", low)
			}
		}
	}
}

// TestIsShort: CR1, fewer than four bytes have no sum; four noughts are the sum of none.
func TestIsShort(t *testing.T) {
	for n := range 4 {
		for _, c := range []byte{0, 1, 255} {
			if b := bytes.Repeat([]byte{c}, n); crc.Is(b) {
				t.Errorf("Is(%v)", b)
			}
		}
	}
	if crc.Is(nil) || !crc.Is(make([]byte, 4)) || crc.Is([]byte{0, 0, 0, 1}) || crc.Is(make([]byte, 5)) {
		t.Errorf("Is of noughts")
	}
}

// TestBits: CR2, a single bit that is turned is found, in the bytes and in their sum.
func TestBits(t *testing.T) {
	for _, n := range []int{0, 1, 9, 504, 508} {
		b := sealed(bytesOf(n, 5))
		for place := range 8 * len(b) {
			b[place/8] ^= 1 << (place % 8)
			if crc.Is(b) {
				t.Errorf("of %d bytes, the bit %d is turned, and not found", len(b), place)
			}
			if place < 8*n && crc.Sum(b[:n]) == plain(sealed(bytesOf(n, 5))[:n]) {
				t.Errorf("of %d bytes, the bit %d is turned, and the sum is the same", n, place)
			}
			b[place/8] ^= 1 << (place % 8)
		}
	}
}
