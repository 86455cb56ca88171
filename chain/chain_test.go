package chain_test

import (
	"math"
	"slices"
	"strings"
	"testing"

	"warren/chain"
)

// text are so many bytes, of which no piece is like the next one.
func text(n int) string {
	b := make([]byte, n)
	for i := range b {
		b[i] = byte(37*i + i/502 + i>>16 + 5)
	}
	return string(b)
}

// parts are the pieces of a value, told from the words: 502 bytes are taken off its front as long as there are more.
func parts(value string) []string {
	var l []string
	for len(value) > 502 {
		l = append(l, value[:502])
		value = value[502:]
	}
	if value != "" {
		l = append(l, value)
	}
	return l
}

// parted fails, unless a value's pieces are those that the words tell, as many as Count says, and together the value.
func parted(t *testing.T, value string) {
	t.Helper()
	got := chain.Pieces(value)
	if !slices.Equal(got, parts(value)) {
		t.Fatalf("Pieces, of %d bytes: %d pieces %.80q", len(value), len(got), got)
	}
	if n := chain.Count(len(value)); n != len(got) {
		t.Fatalf("Count(%d): %d, not %d", len(value), n, len(got))
	}
	if strings.Join(got, "") != value {
		t.Fatalf("Pieces, of %d bytes: together they are another value", len(value))
	}
}

// TestPiecesEach: CH1, CH2, each length of a value that may be, and some beyond, whatever its bytes are.
func TestPiecesEach(t *testing.T) {
	for n := range 2600 {
		parted(t, text(n))
		parted(t, strings.Repeat("\x00", n))
		parted(t, strings.Repeat("\xff", n))
	}
	for n := range 1300 {
		parted(t, strings.Repeat("é", n))
	}
}

// TestPiecesLong: CH1, CH2, values far longer than any that may be.
func TestPiecesLong(t *testing.T) {
	for _, n := range []int{502 * 8, 502 * 100, 502*100 + 1, 1<<16 - 1, 1 << 16, 1<<16 + 1, 502*4000 - 1, 502 * 4000, 502*4000 + 1} {
		parted(t, text(n))
	}
}

// TestPiecesSizes: CH1, written out: 502 bytes each, and what is left.
func TestPiecesSizes(t *testing.T) {
	for _, c := range []struct {
		long int
		want []int
	}{
		{0, nil}, {1, []int{1}}, {64, []int{64}}, {65, []int{65}}, {501, []int{501}}, {502, []int{502}},
		{503, []int{502, 1}}, {504, []int{502, 2}}, {505, []int{502, 3}}, {512, []int{502, 10}}, {1003, []int{502, 501}},
		{1004, []int{502, 502}}, {1005, []int{502, 502, 1}}, {1506, []int{502, 502, 502}}, {1507, []int{502, 502, 502, 1}},
		{2008, []int{502, 502, 502, 502}}, {2048, []int{502, 502, 502, 502, 40}},
	} {
		var got []int
		for _, piece := range chain.Pieces(text(c.long)) {
			got = append(got, len(piece))
		}
		if !slices.Equal(got, c.want) {
			t.Errorf("Pieces, of %d bytes: of %v bytes, not %v", c.long, got, c.want)
		}
	}
}

// TestPiecesNew: rules 3 and 4: a list that was answered is nobody else's, its spare room too.
func TestPiecesNew(t *testing.T) {
	value := text(1300)
	one, two := chain.Pieces(value), chain.Pieces(value)
	clear(one[:cap(one)])
	if !slices.Equal(two, parts(value)) || !slices.Equal(chain.Pieces(value), parts(value)) || value != text(1300) {
		t.Errorf("Pieces, twice: they share")
	}
}

// TestCount: CH1, written out: at each edge, of nothing and less, and of the greatest numbers.
func TestCount(t *testing.T) {
	for _, c := range []struct{ long, want int }{
		{math.MinInt, 0}, {math.MinInt + 1, 0}, {math.MinInt32, 0}, {-1004, 0}, {-503, 0}, {-502, 0}, {-501, 0}, {-2, 0}, {-1, 0}, {0, 0},
		{1, 1}, {2, 1}, {64, 1}, {65, 1}, {501, 1}, {502, 1}, {503, 2}, {504, 2}, {505, 2}, {1003, 2}, {1004, 2}, {1005, 3},
		{1506, 3}, {1507, 4}, {2008, 4}, {2009, 5}, {2048, 5}, {2510, 5}, {2511, 6}, {1 << 16, 131}, {502000, 1000}, {502001, 1001},
		{math.MaxInt32, 4277856}, {math.MaxInt - 501, math.MaxInt / 502}, {math.MaxInt - 1, math.MaxInt/502 + 1}, {math.MaxInt, math.MaxInt/502 + 1},
	} {
		if got := chain.Count(c.long); got != c.want {
			t.Errorf("Count(%d): %d, not %d", c.long, got, c.want)
		}
	}
}

// TestCountEach: CH1, each number in a row: one more piece behind each 502 bytes.
func TestCountEach(t *testing.T) {
	want, left := 0, 0
	for long := 1; long <= 20000; long++ {
		if left == 0 {
			want, left = want+1, 502
		}
		left--
		if got := chain.Count(long); got != want {
			t.Fatalf("Count(%d): %d, not %d", long, got, want)
		}
		if got := chain.Count(-long); got != 0 {
			t.Fatalf("Count(%d): %d", -long, got)
		}
	}
}
