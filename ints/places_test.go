package ints_test

import (
	"math"
	"math/big"
	"testing"

	"warren/api"
	"warren/ints"
)

// TestUp: IN3, of each shift, held against numbers that are not bounded.
func TestUp(t *testing.T) {
	for shift := range 64 {
		for _, n := range numbers() {
			want := whole(n)
			want.Add(want, whole(ones(shift)))
			want.Rsh(want, uint(shift))
			want.Lsh(want, uint(shift))
			got, err := ints.Up(n, shift)
			if want.Cmp(power(64)) >= 0 {
				wrong(t, "Up", err, api.ErrRange)
				want = new(big.Int)
			} else if err != nil {
				t.Errorf("Up(%d, %d): %v", n, shift, err)
			}
			if whole(got).Cmp(want) != 0 {
				t.Errorf("Up(%d, %d): %d, not %v", n, shift, got, want)
			}
		}
	}
}

// TestUpEdges: IN3, the edges that are named.
func TestUpEdges(t *testing.T) {
	for _, c := range []struct {
		n     uint64
		shift int
		want  uint64
		err   api.Errno
	}{
		{0, 0, 0, 0},
		{0, 63, 0, 0},
		{7, 0, 7, 0},
		{math.MaxUint64, 0, math.MaxUint64, 0},
		{math.MaxUint64, 1, 0, api.ErrRange},
		{math.MaxUint64 - 1, 1, math.MaxUint64 - 1, 0},
		{1, 9, 512, 0},
		{512, 9, 512, 0},
		{513, 9, 1024, 0},
		{1, 63, 1 << 63, 0},
		{1 << 63, 63, 1 << 63, 0},
		{1<<63 + 1, 63, 0, api.ErrRange},
		{math.MaxUint64, 63, 0, api.ErrRange},
		{0, -1, 0, api.ErrArg},
		{math.MaxUint64, -1, 0, api.ErrArg},
		{0, 64, 0, api.ErrArg},
		{math.MaxUint64, 64, 0, api.ErrArg},
		{5, math.MinInt, 0, api.ErrArg},
		{5, math.MaxInt, 0, api.ErrArg},
	} {
		got, err := ints.Up(c.n, c.shift)
		if c.err != 0 {
			wrong(t, "Up", err, c.err)
		} else if err != nil {
			t.Errorf("Up(%d, %d): %v", c.n, c.shift, err)
		}
		if got != c.want {
			t.Errorf("Up(%d, %d): %d, not %d", c.n, c.shift, got, c.want)
		}
	}
}

// TestPlaces: IN3, bits counted, and their places, one by one.
func TestPlaces(t *testing.T) {
	for _, v := range numbers() {
		many, low, high := 0, -1, -1
		for place := range 64 {
			if whole(v).Bit(place) == 0 {
				continue
			}
			many++
			high = place
			if low < 0 {
				low = place
			}
		}
		if got := ints.Ones(v); got != many {
			t.Errorf("Ones(%d): %d, not %d", v, got, many)
		}
		if got := ints.Lowest(v); got != low {
			t.Errorf("Lowest(%d): %d, not %d", v, got, low)
		}
		if got := ints.Highest(v); got != high {
			t.Errorf("Highest(%d): %d, not %d", v, got, high)
		}
	}
}

// TestNoBits: IN3, the number 0 has none.
func TestNoBits(t *testing.T) {
	if ints.Ones(0) != 0 || ints.Lowest(0) != -1 || ints.Highest(0) != -1 {
		t.Errorf("0: %d, %d, %d", ints.Ones(0), ints.Lowest(0), ints.Highest(0))
	}
}
