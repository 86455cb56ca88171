package fill_test

import (
	"math"
	"slices"
	"testing"

	"warren/api"
	"warren/fill"
)

// nodes are the bytes of both nodes, counted one by one from the words.
func nodes(sizes []int, besides, at int) (int, int) {
	ahead, behind := besides, besides
	for i, size := range sizes {
		if i < at {
			ahead += size
		} else {
			behind += size
		}
	}
	return ahead, behind
}

// place is where things are parted, told from the words, and how many bytes the greater node has then.
func place(sizes []int, besides int) (int, int) {
	var greater []int
	for at := 1; at < len(sizes); at++ {
		ahead, behind := nodes(sizes, besides, at)
		greater = append(greater, max(ahead, behind))
	}
	least := slices.Min(greater)
	return slices.Index(greater, least) + 1, least
}

// parted fails, unless things that can be are parted where the words tell, or too long if the words tell that.
func parted(t *testing.T, sizes []int, besides int) {
	t.Helper()
	was := slices.Clone(sizes)
	n, err := fill.Split(sizes, besides)
	if !slices.Equal(sizes, was) {
		t.Fatalf("Split changes what was handed in: %v, not %v", sizes, was)
	}
	want, greater := place(sizes, besides)
	if greater > 504 {
		wrong(t, "Split", n, err, api.ErrLong)
		return
	}
	if n != want || err != nil {
		t.Fatalf("Split(%v, %d): %d, %v, not %d", sizes, besides, n, err, want)
	}
}

// refused fails, unless Split answers ErrArg, and nothing beside it.
func refused(t *testing.T, sizes []int, besides int) {
	t.Helper()
	n, err := fill.Split(sizes, besides)
	wrong(t, "Split", n, err, api.ErrArg)
}

// rows hands each row of so many numbers, out of those, on.
func rows(n int, of []int, to func([]int)) {
	row := make([]int, n)
	var set func(int)
	set = func(at int) {
		if at == n {
			to(row)
			return
		}
		for _, v := range of {
			row[at] = v
			set(at + 1)
		}
	}
	set(0)
}

// dice are numbers below what they are asked for, always the same ones.
func dice() func(int) int {
	seed := uint32(1)
	return func(n int) int {
		seed = seed*1664525 + 1013904223
		return int(seed>>8) % n
	}
}

// alike are so many things of one size.
func alike(n, size int) []int { return slices.Repeat([]int{size}, n) }

// TestSplitWritten: FL1, places written out.
func TestSplitWritten(t *testing.T) {
	for _, c := range []struct {
		sizes   []int
		besides int
		want    int
	}{
		{[]int{100, 100, 300}, 0, 2}, {[]int{300, 100, 100}, 0, 1}, {[]int{1, 1}, 0, 1}, {[]int{0, 0}, 0, 1}, {[]int{504, 504}, 0, 1},
		{[]int{504, 0}, 0, 1}, {[]int{0, 504}, 0, 1}, {[]int{0, 0}, 504, 1}, {[]int{252, 252}, 252, 1}, {[]int{100, 100, 100}, 0, 1},
		{[]int{100, 100, 100}, 304, 1}, {[]int{1, 2, 3, 4}, 0, 3}, {[]int{4, 3, 2, 1}, 0, 1}, {[]int{1, 1, 1, 1, 1}, 0, 2},
		{[]int{0, 0, 0, 5}, 0, 1}, {[]int{5, 0, 0, 0}, 0, 1}, {[]int{5, 0, 0, 5}, 0, 1}, {[]int{0, 5, 0, 5, 0}, 0, 2},
		{[]int{100, 404, 404, 100}, 0, 2}, {[]int{504, 1, 503}, 0, 1}, {[]int{503, 1, 504}, 0, 2}, {[]int{0, 504, 504}, 0, 2},
	} {
		if n, err := fill.Split(c.sizes, c.besides); n != c.want || err != nil {
			t.Errorf("Split(%v, %d): %d, %v, not %d", c.sizes, c.besides, n, err, c.want)
		}
	}
}

// TestSplitFirst: FL1, of places that are as good the first one, all in a row or on both sides of what is greatest.
func TestSplitFirst(t *testing.T) {
	for n := 2; n <= 1024; n++ {
		if at, err := fill.Split(alike(n, 0), 0); at != 1 || err != nil {
			t.Fatalf("Split, %d of nothing: %d, %v", n, at, err)
		}
		if at, err := fill.Split(append(alike(n-1, 0), 9), 0); at != 1 || err != nil {
			t.Fatalf("Split, 9 behind %d of nothing: %d, %v", n-1, at, err)
		}
	}
	for n := 2; n <= 504; n++ {
		if at, err := fill.Split(alike(n, 1), 0); at != n/2 || err != nil {
			t.Fatalf("Split, %d ones: %d, %v", n, at, err)
		}
	}
	for size := 1; size <= 252; size++ {
		if at, err := fill.Split(alike(3, size), 0); at != 1 || err != nil {
			t.Fatalf("Split, three of %d: %d, %v", size, at, err)
		}
	}
}

// TestSplitShort: FL1, each row of few small numbers, and of numbers of which two or three are too long.
func TestSplitShort(t *testing.T) {
	for _, c := range []struct {
		most    int
		numbers []int
	}{{7, []int{0, 1, 2, 3}}, {6, []int{0, 1, 126, 252, 504}}, {5, []int{1, 101, 168, 251, 253, 505, 1024}}} {
		for n := 2; n <= c.most; n++ {
			rows(n, c.numbers, func(sizes []int) {
				for _, besides := range []int{0, 1, 3, 126, 252, 502, 1024} {
					parted(t, sizes, besides)
				}
			})
		}
	}
}

// TestSplitTwo: FL1, two things: one place, that is asked of both of them, and of what stands besides.
func TestSplitTwo(t *testing.T) {
	for _, a := range []int{0, 1, 125, 126, 251, 252, 253, 503, 504, 505, 1023, 1024} {
		for b := range 1025 {
			parted(t, []int{a, b}, 0)
			parted(t, []int{b, a}, 0)
			parted(t, []int{a, 1}, b)
		}
	}
}

// TestSplitLong: FL1, the greater node has 504 bytes at most: on each side, and with what stands besides.
func TestSplitLong(t *testing.T) {
	for besides := range 505 {
		left := 504 - besides
		for _, sizes := range [][]int{{left, 0}, {0, left}, {left, left}, {0, left, 0}, {left / 2, left - left/2, left}} {
			if n, err := fill.Split(sizes, besides); n < 1 || err != nil {
				t.Fatalf("Split(%v, %d): %d, %v", sizes, besides, n, err)
			}
		}
		for _, sizes := range [][]int{{left + 1, 0}, {0, left + 1}, {left + 1, left + 1}, {0, left + 1, 0}, {left, left, 1 + left}} {
			n, err := fill.Split(sizes, besides)
			wrong(t, "Split", n, err, api.ErrLong)
		}
	}
	for _, sizes := range [][]int{{0, 0}, alike(1024, 0), alike(1024, 1), alike(1024, 1024)} {
		for _, besides := range []int{505, 1023, 1024} {
			n, err := fill.Split(sizes, besides)
			wrong(t, "Split", n, err, api.ErrLong)
		}
	}
}

// TestSplitMany: FL1, fewer than two sizes, or more than 1,024, are refused, be they too long or not.
func TestSplitMany(t *testing.T) {
	for _, besides := range []int{0, 1, 504, 505, 1024} {
		refused(t, nil, besides)
		for _, size := range []int{0, 1, 504, 1024} {
			for _, n := range []int{0, 1, 1025, 1026, 2048, 1 << 16, 1<<16 + 2} {
				refused(t, alike(n, size), besides)
			}
			for _, n := range []int{2, 3, 1023, 1024} {
				parted(t, alike(n, size), besides)
			}
		}
	}
}

// TestSplitWrong: FL1, a size at any place, or besides, that is below 0 or above 1,024, is refused ahead of what is too long.
func TestSplitWrong(t *testing.T) {
	for _, bad := range []int{
		math.MinInt, math.MinInt + 100, math.MinInt32, -1<<32 + 100, -1 << 16, -1024, -504, -100, -1,
		1025, 1026, 2048, 1 << 16, 1<<16 + 100, math.MaxInt32, 1 << 32, 1<<32 + 100, math.MaxInt - 1, math.MaxInt,
	} {
		for _, size := range []int{0, 1, 100, 504, 1024} {
			for n := 2; n <= 6; n++ {
				for at := range n {
					sizes := alike(n, size)
					sizes[at] = bad
					refused(t, sizes, 0)
					refused(t, sizes, 1024)
				}
				refused(t, alike(n, size), bad)
				refused(t, alike(n, bad), 0)
				refused(t, alike(n, bad), bad)
			}
			refused(t, append(alike(1023, size), bad), 0)
			refused(t, append(alike(1025, size), bad), bad)
		}
	}
	refused(t, []int{math.MaxInt, math.MinInt}, 0)
	refused(t, []int{-100, 200}, 0)
	refused(t, []int{200, 200}, -100)
	refused(t, []int{1 << 62, 1 << 62, 1 << 62, 1 << 62}, 0)
}

// TestSplitDice: FL1, rows of any length, of sizes that are mostly small enough to fit.
func TestSplitDice(t *testing.T) {
	roll := dice()
	fitting := 0
	for range 20000 {
		n := 2 + roll(30)
		if roll(100) == 0 {
			n = 2 + roll(1023)
		}
		top := 1 + roll(min(1025, 1+2400/n))
		sizes := make([]int, n)
		for i := range sizes {
			sizes[i] = roll(top)
		}
		besides := roll(2) * roll(50)
		if _, greater := place(sizes, besides); greater <= 504 {
			fitting++
		}
		parted(t, sizes, besides)
	}
	if fitting < 5000 || fitting > 19000 {
		t.Errorf("of all, %d fit", fitting)
	}
}

// full fails, unless things are parted into two nodes that have enough, and fit.
func full(t *testing.T, sizes []int, besides int) {
	t.Helper()
	at, err := fill.Split(sizes, besides)
	if err != nil || at < 1 || at >= len(sizes) {
		t.Fatalf("Split(%v, %d): %d, %v", sizes, besides, at, err)
	}
	for _, size := range nodesOf(sizes, besides, at) {
		if size < 126 || size > 504 || !fill.Enough(size) || !fill.Fits(size) {
			t.Fatalf("Split(%v, %d): %d: a node of %d bytes", sizes, besides, at, size)
		}
	}
}

// nodesOf are the bytes of both nodes as a list.
func nodesOf(sizes []int, besides, at int) []int {
	ahead, behind := nodes(sizes, besides, at)
	return []int{ahead, behind}
}

// TestFull: FL3, things that are alike, of each size that they may have, and what is left ahead or behind.
func TestFull(t *testing.T) {
	for all := 505; all <= 700; all++ {
		for size := 1; size <= 112; size++ {
			sizes := alike(all/size, size)
			if left := all % size; left > 0 {
				full(t, append([]int{left}, sizes...), 0)
				sizes = append(sizes, left)
			}
			full(t, sizes, 0)
		}
	}
}

// TestFullDice: FL3, things of any sizes up to 112, together from 505 to 700, with and without something besides.
func TestFullDice(t *testing.T) {
	roll := dice()
	for range 40000 {
		all, top := 505+roll(196), 1+roll(112)
		var sizes []int
		for left := all; left > 0; {
			size := min(left, roll(top+1))
			sizes, left = append(sizes, size), left-size
		}
		if len(sizes) > 1024 {
			continue
		}
		full(t, sizes, 0)
		full(t, sizes, roll(99))
	}
}

// TestFullEdge: FL3, the greatest things with 504 bytes and less beside them, at each place: where the middle is as far off as it can be.
func TestFullEdge(t *testing.T) {
	for all := 505; all <= 700; all++ {
		for ahead := range all - 112 + 1 {
			sizes := append(alike(ahead, 1), 112)
			full(t, append(sizes, alike(all-112-ahead, 1)...), 0)
		}
	}
}
