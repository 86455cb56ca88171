package leaf_test

import (
	"errors"
	"math"
	"strings"
	"testing"

	"warren/api"
	"warren/leaf"
)

// wrong fails, unless an error's number is that one.
func wrong(t *testing.T, what string, err error, want api.Errno) {
	t.Helper()
	var no api.Errno
	if !errors.As(err, &no) || no != want {
		t.Errorf("%s: %v, not %v", what, err, want)
	}
}

// checked fails, unless Check answers nil for what may be a cell, and ErrArg for what may not.
func checked(t *testing.T, c leaf.Cell, may bool) {
	t.Helper()
	err := leaf.Check(c)
	if !may {
		wrong(t, "Check", err, api.ErrArg)
	} else if err != nil {
		t.Errorf("Check: %v", err)
	}
	if t.Failed() {
		t.Fatalf("the cell: %#v", c)
	}
}

// text are so many bytes, one unlike the next one.
func text(n int) string {
	b := make([]byte, n)
	for i := range b {
		b[i] = byte(37*i + 5)
	}
	return string(b)
}

// lies is a cell of a value that lies in the leaf.
func lies(key, value string) leaf.Cell { return leaf.Cell{Key: key, Value: value, Long: len(value)} }

// away is a cell of a value that lies on pages.
func away(key string, long, page int) leaf.Cell { return leaf.Cell{Key: key, Long: long, Page: page} }

// TestCheck: LF1, what may be a cell: the least, the greatest, and what stands at the edges.
func TestCheck(t *testing.T) {
	for _, key := range []string{"a", "\x00", "\xff", text(2), text(39), text(40)} {
		for _, n := range []int{0, 1, 2, 40, 63, 64} {
			checked(t, lies(key, text(n)), true)
			checked(t, lies(key, strings.Repeat("\x00", n)), true)
		}
		for _, long := range []int{65, 66, 127, 128, 504, 512, 2047, 2048} {
			for _, page := range []int{2, 3, 255, 256, 512, 1022, 1023} {
				checked(t, away(key, long, page), true)
			}
		}
	}
}

// TestCheckKey: LF1, a cell may not be, if its key may not.
func TestCheckKey(t *testing.T) {
	for _, n := range []int{0, 41, 42, 64, 2048, 1 << 16} {
		checked(t, lies(text(n), ""), false)
		checked(t, lies(text(n), "xy"), false)
		checked(t, lies(text(n), text(64)), false)
		checked(t, away(text(n), 65, 2), false)
		checked(t, away(text(n), 2048, 1023), false)
	}
	checked(t, leaf.Cell{}, false)
}

// TestCheckLong: LF1, Long from 0 to 2,048, and, up to 64, as many bytes as the value has.
func TestCheckLong(t *testing.T) {
	for _, long := range []int{math.MinInt, -64, -2, -1, 65, 66, 2048, 2049, 4096, 1 << 32, math.MaxInt} {
		checked(t, leaf.Cell{Key: "a", Long: long}, false)
	}
	for _, long := range []int{math.MinInt, -64, -1, 2049, 2050, 1 << 16, 1 << 32, 1<<32 + 65, math.MaxInt} {
		for _, page := range []int{0, 2, 1023} {
			checked(t, away("a", long, page), false)
			checked(t, leaf.Cell{Key: "a", Value: "x", Long: long, Page: page}, false)
		}
	}
	for long := range 70 {
		for n := range 70 {
			c := leaf.Cell{Key: "a", Value: text(n), Long: long}
			checked(t, c, long == n && n <= 64)
		}
	}
	checked(t, leaf.Cell{Key: "a", Value: text(2049), Long: 2049}, false)
}

// TestCheckPage: LF1, a page from 2 to 1,023, where the value doesn't lie in the leaf, and only there; nothing beside a page.
func TestCheckPage(t *testing.T) {
	for _, page := range []int{math.MinInt, -1024, -2, -1, 1, 2, 3, 1023, 1024, 1 << 16, math.MaxInt} {
		for _, n := range []int{0, 1, 64} {
			checked(t, leaf.Cell{Key: "a", Value: text(n), Long: n, Page: page}, false)
		}
	}
	for _, long := range []int{65, 100, 2048} {
		for _, page := range []int{math.MinInt, -2, -1, 0, 1, 1024, 1025, 65537, 65538, 1<<32 + 2, math.MaxInt} {
			checked(t, away("a", long, page), false)
		}
		for _, n := range []int{1, 2, 64, long - 1, long} {
			checked(t, leaf.Cell{Key: "a", Value: text(n), Long: long, Page: 2}, false)
			checked(t, leaf.Cell{Key: "a", Value: text(n), Long: long}, false)
		}
	}
}

// TestSize: LF1, where one byte more is needed, written out; be it a cell's or not.
func TestSize(t *testing.T) {
	for _, c := range []struct{ key, long, want int }{
		{1, 0, 3}, {1, 1, 4}, {1, 2, 5}, {2, 2, 6}, {1, 63, 66}, {1, 64, 67}, {40, 0, 42}, {40, 64, 106},
		{1, 65, 5}, {1, 66, 5}, {1, 127, 5}, {1, 128, 6}, {1, 129, 6}, {1, 2048, 6}, {40, 65, 44}, {40, 127, 44}, {40, 128, 45}, {40, 2048, 45},
		{0, 0, 2}, {0, 64, 66}, {0, 65, 4}, {41, 0, 43}, {127, 0, 129}, {128, 0, 131}, {16383, 1, 16387}, {16384, 1, 16389}, {128, 128, 134},
		{1, -1, 3}, {1, -64, 3}, {1, -65, 3}, {1, -2048, 3}, {1, math.MinInt, 3}, {0, -1, 2}, {128, -1, 131},
		{1, 2049, 6}, {1, 16383, 6}, {1, 16384, 7}, {1, 1 << 20, 7}, {1, 1 << 21, 8}, {1, math.MaxInt32, 9}, {1, math.MaxInt64, 13},
	} {
		if got := leaf.Size(text(c.key), c.long); got != c.want {
			t.Errorf("Size, of a key of %d bytes and a value of %d: %d, not %d", c.key, c.long, got, c.want)
		}
	}
}

// TestSizeEncode: LF1, as many bytes as a cell adds to a load of none.
func TestSizeEncode(t *testing.T) {
	for n := 1; n <= 40; n++ {
		for long := range 2049 {
			c := away(text(n), long, 2)
			if long <= 64 {
				c = lies(text(n), text(long))
			}
			b, err := leaf.Encode([]leaf.Cell{c})
			if got := leaf.Size(c.Key, long); err != nil || got != len(b)-1 {
				t.Fatalf("Size, of a key of %d bytes and a value of %d: %d; of the load: %d, %v", n, long, got, len(b), err)
			}
		}
	}
}

// rows are cells of those keys, with values of no bytes.
func rows(list []string) []leaf.Cell {
	var l []leaf.Cell
	for _, key := range list {
		l = append(l, lies(key, ""))
	}
	return l
}

// TestFind: LF2, each key, and those between, ahead and behind, whether a key may be or not, of leaves of each few keys.
func TestFind(t *testing.T) {
	all := []string{"", "\x00", "a", "a\x00", "ab", "b", "\x7f", "\x80", "\xff", "\xff\xff", strings.Repeat("\xff", 50)}
	for set := range 1 << len(all) {
		var list []string
		for i, key := range all {
			if set>>i&1 == 1 {
				list = append(list, key)
			}
		}
		l, below := rows(list), 0
		for i, key := range all {
			in := set>>i&1 == 1
			if at, ok := leaf.Find(l, key); at != below || ok != in {
				t.Fatalf("Find(%q, %q): %d, %v, not %d", list, key, at, ok, below)
			}
			if in {
				below++
			}
		}
		if len(l) != len(list) || below != len(list) {
			t.Fatalf("Find(%q) changes how many there are", list)
		}
	}
}

// TestFindMany: LF2, each place of leaves of each length, with values of any kind.
func TestFindMany(t *testing.T) {
	key := func(i int) string { return string([]byte{byte(i >> 8), byte(i)}) }
	var l []leaf.Cell
	for n := range 200 {
		for i := range 2*n + 2 {
			at, ok := leaf.Find(l, key(i))
			if want := i / 2; at != want || ok != (i%2 == 1) && i <= 2*n {
				t.Fatalf("Find, of %d cells, %d: %d, %v", n, i, at, ok)
			}
		}
		l = append(l, []leaf.Cell{lies(key(2*n+1), ""), lies(key(2*n+1), "x"), away(key(2*n+1), 99, 7)}[n%3])
	}
}
