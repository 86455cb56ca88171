package ints_test

import (
	"errors"
	"math"
	"math/big"
	"testing"

	"warren/api"
	"warren/ints"
)

// wrong fails, unless an error's number is the one that is asked for.
func wrong(t *testing.T, what string, err error, want api.Errno) {
	t.Helper()
	var got api.Errno
	if !errors.As(err, &got) || got != want {
		t.Errorf("%s: %v, not %v", what, err, want)
	}
}

// ones is a number of so many bits, all set.
func ones(bits int) uint64 {
	return new(big.Int).Sub(power(bits), big.NewInt(1)).Uint64()
}

// power is 2 by itself, so many times.
func power(bits int) *big.Int {
	return new(big.Int).Lsh(big.NewInt(1), uint(bits))
}

// whole is a number that is not bounded.
func whole(v uint64) *big.Int { return new(big.Int).SetUint64(v) }

// numbers are those at and beside each power of two, and some between.
func numbers() []uint64 {
	l := []uint64{0, some, math.MaxUint64, math.MaxUint64 - 1, 0xaaaaaaaaaaaaaaaa, 0x5555555555555555}
	for i := range 64 {
		p := uint64(1) << i
		l = append(l, p-1, p, p+1, p+p/2, -p)
	}
	return l
}

// widths are those that a number may have not.
func widths() []int { return []int{math.MinInt, -64, -1, 0, 65, 128, math.MaxInt} }

// TestSmall: IN2, of each width, held against numbers that are not bounded.
func TestSmall(t *testing.T) {
	for bits := 1; bits <= 64; bits++ {
		for _, v := range numbers() {
			n := int64(v)
			got, err := ints.Small(n, bits)
			if n < 0 || whole(v).Cmp(power(bits)) >= 0 {
				wrong(t, "Small", err, api.ErrRange)
				if got != 0 {
					t.Errorf("Small(%d, %d): %d beside an error", n, bits, got)
				}
				continue
			}
			if got != v || err != nil {
				t.Errorf("Small(%d, %d): %d, %v", n, bits, got, err)
			}
		}
	}
}

// TestSmallEdges: IN2, the edges that are named.
func TestSmallEdges(t *testing.T) {
	for _, c := range []struct {
		n    int64
		bits int
		want uint64
		err  api.Errno
	}{
		{0, 1, 0, 0},
		{1, 1, 1, 0},
		{2, 1, 0, api.ErrRange},
		{255, 8, 255, 0},
		{256, 8, 0, api.ErrRange},
		{1<<62 - 1, 62, 1<<62 - 1, 0},
		{1 << 62, 62, 0, api.ErrRange},
		{math.MaxInt64, 63, math.MaxInt64, 0},
		{math.MaxInt64, 64, math.MaxInt64, 0},
		{-1, 1, 0, api.ErrRange},
		{-1, 63, 0, api.ErrRange},
		{-1, 64, 0, api.ErrRange},
		{math.MinInt64, 64, 0, api.ErrRange},
	} {
		got, err := ints.Small(c.n, c.bits)
		if c.err != 0 {
			wrong(t, "Small", err, c.err)
		} else if err != nil {
			t.Errorf("Small(%d, %d): %v", c.n, c.bits, err)
		}
		if got != c.want {
			t.Errorf("Small(%d, %d): %d, not %d", c.n, c.bits, got, c.want)
		}
	}
}

// TestWidths: IN2, a width that is none is told ahead of a number that is out of range.
func TestWidths(t *testing.T) {
	for _, bits := range widths() {
		for _, v := range numbers() {
			small, err := ints.Small(int64(v), bits)
			wrong(t, "Small", err, api.ErrArg)
			signed, err := ints.Signed(v, bits)
			wrong(t, "Signed", err, api.ErrArg)
			if small != 0 || signed != 0 {
				t.Errorf("of %d bits: %d, %d beside an error", bits, small, signed)
			}
		}
	}
}

// TestSigned: IN2 and IN4, of each width: held against numbers that are not bounded, and taken by its lowest bits again.
func TestSigned(t *testing.T) {
	for bits := 1; bits <= 64; bits++ {
		for _, v := range numbers() {
			got, err := ints.Signed(v, bits)
			if whole(v).Cmp(power(bits)) >= 0 {
				wrong(t, "Signed", err, api.ErrRange)
				if got != 0 {
					t.Errorf("Signed(%d, %d): %d beside an error", v, bits, got)
				}
				continue
			}
			want := whole(v)
			if want.Bit(bits-1) == 1 {
				want.Sub(want, power(bits))
			}
			if err != nil || want.Cmp(big.NewInt(got)) != 0 {
				t.Errorf("Signed(%d, %d): %d, %v, not %v", v, bits, got, err, want)
			}
			if back := uint64(got) & ones(bits); back != v {
				t.Errorf("Signed(%d, %d) back: %d", v, bits, back)
			}
		}
	}
}

// TestSignedEdges: IN2, the edges that are named, and the chapter's example.
func TestSignedEdges(t *testing.T) {
	for _, c := range []struct {
		v    uint64
		bits int
		want int64
		err  api.Errno
	}{
		{255, 8, -1, 0},
		{128, 8, -128, 0},
		{127, 8, 127, 0},
		{256, 8, 0, api.ErrRange},
		{0, 1, 0, 0},
		{1, 1, -1, 0},
		{2, 1, 0, api.ErrRange},
		{1<<62 - 1, 63, 1<<62 - 1, 0},
		{1 << 62, 63, -1 << 62, 0},
		{1<<63 - 1, 63, -1, 0},
		{1 << 63, 63, 0, api.ErrRange},
		{math.MaxUint64, 63, 0, api.ErrRange},
		{1<<63 - 1, 64, math.MaxInt64, 0},
		{1 << 63, 64, math.MinInt64, 0},
		{math.MaxUint64, 64, -1, 0},
	} {
		got, err := ints.Signed(c.v, c.bits)
		if c.err != 0 {
			wrong(t, "Signed", err, c.err)
		} else if err != nil {
			t.Errorf("Signed(%d, %d): %v", c.v, c.bits, err)
		}
		if got != c.want {
			t.Errorf("Signed(%d, %d): %d, not %d", c.v, c.bits, got, c.want)
		}
	}
}
