package fill_test

import (
	"errors"
	"math"
	"testing"

	"warren/api"
	"warren/fill"
)

// wrong fails, unless a call answers 0, and the error of that number.
func wrong(t *testing.T, what string, n int, err error, want api.Errno) {
	t.Helper()
	if n != 0 {
		t.Fatalf("%s: %d beside an error", what, n)
	}
	var no api.Errno
	if !errors.As(err, &no) || no != want {
		t.Fatalf("%s: %v, not %v", what, err, want)
	}
}

// TestEnoughEach: FL1, each number around 126, and far beyond a load on both sides.
func TestEnoughEach(t *testing.T) {
	for size := -3000; size < 126; size++ {
		if fill.Enough(size) {
			t.Fatalf("Enough(%d): true", size)
		}
	}
	for size := 126; size <= 3000; size++ {
		if !fill.Enough(size) {
			t.Fatalf("Enough(%d): false", size)
		}
	}
}

// TestEnoughFar: FL1, the least and the greatest numbers, and those whose lowest bytes would answer otherwise.
func TestEnoughFar(t *testing.T) {
	for _, size := range []int{math.MinInt, math.MinInt + 126, math.MinInt32, -1<<32 + 126, -1<<16 + 504, -126, -1} {
		if fill.Enough(size) {
			t.Errorf("Enough(%d): true", size)
		}
	}
	for _, size := range []int{1 << 8, 1 << 16, 1<<16 + 1, math.MaxInt32, 1 << 32, 1<<32 + 1, math.MaxInt - 1, math.MaxInt} {
		if !fill.Enough(size) {
			t.Errorf("Enough(%d): false", size)
		}
	}
}

// TestFitsEach: FL1, each number from 0 to 504, and those around them.
func TestFitsEach(t *testing.T) {
	fitting := 0
	for size := -3000; size <= 3000; size++ {
		if fill.Fits(size) {
			fitting++
		}
	}
	if fitting != 505 {
		t.Errorf("%d numbers fit, not 505", fitting)
	}
	for size := range 505 {
		if !fill.Fits(size) {
			t.Errorf("Fits(%d): false", size)
		}
	}
}

// TestFitsFar: FL1, the least and the greatest numbers, and those whose lowest bytes would fit.
func TestFitsFar(t *testing.T) {
	for _, size := range []int{
		math.MinInt, math.MinInt + 1, math.MinInt32, -1 << 32, -1<<16 + 1, -505, -504, -126, -2, -1,
		505, 506, 512, 1024, 1 << 16, 1<<16 + 126, 1 << 32, 1<<32 + 504, math.MaxInt32, math.MaxInt - 1, math.MaxInt,
	} {
		if fill.Fits(size) {
			t.Errorf("Fits(%d): true", size)
		}
	}
}

// TestMostWritten: FL2, written out: at each edge of the first nodes, and of what may be.
func TestMostWritten(t *testing.T) {
	for _, c := range []struct{ bytes, want int }{
		{0, 1}, {1, 1}, {125, 1}, {126, 2}, {127, 2}, {251, 2}, {252, 3}, {253, 3}, {377, 3}, {378, 4}, {503, 4}, {504, 5}, {505, 5},
		{629, 5}, {630, 6}, {1259, 10}, {1260, 11}, {12599, 100}, {12600, 101}, {1 << 16, 521}, {126000000, 1000001}, {125999999, 1000000},
		{1073741759, 8521760}, {1073741760, 8521761}, {1 << 29, 4260881}, {1<<30 - 1, 8521761}, {1 << 30, 8521761},
	} {
		if n, err := fill.Most(c.bytes); n != c.want || err != nil {
			t.Errorf("Most(%d): %d, %v, not %d", c.bytes, n, err, c.want)
		}
	}
}

// TestMostEach: FL2, each number in a row: one more node with each 126 bytes that are full.
func TestMostEach(t *testing.T) {
	want, left := 1, 126
	for bytes := range 200000 {
		if left == 0 {
			want, left = want+1, 126
		}
		left--
		if n, err := fill.Most(bytes); n != want || err != nil {
			t.Fatalf("Most(%d): %d, %v, not %d", bytes, n, err, want)
		}
	}
}

// TestMostWrong: FL2, what is below 0, or above 2^30, even where its lowest bytes would do.
func TestMostWrong(t *testing.T) {
	for _, bytes := range []int{
		math.MinInt, math.MinInt + 126, math.MinInt32, -1 << 32, -1 << 30, -504, -127, -126, -125, -2, -1,
		1<<30 + 1, 1<<30 + 126, 1 << 31, math.MaxInt32, 1 << 32, 1<<32 + 126, math.MaxInt - 1, math.MaxInt,
	} {
		n, err := fill.Most(bytes)
		wrong(t, "Most", n, err, api.ErrArg)
	}
}
