package scrub_test

import (
	"bytes"
	"slices"
	"strings"
	"testing"

	"warren/bitset"
	"warren/scrub"
)

// TestExample: SC1, nothing used, a byte in page 3: 3.
func TestExample(t *testing.T) {
	pages := make([][]byte, 8)
	for n := range pages {
		pages[n] = make([]byte, 512)
	}
	pages[3][100] = 1
	if got := scrub.Dirty(pages, bitset.Set{}); !slices.Equal(got, []int{3}) {
		t.Errorf("Dirty: %v", got)
	}
	if held(t, "a byte in page 3", pages, bitset.Set{}) {
		t.Error("Clean, with a byte in page 3")
	}
}

// TestNoPages: SC1, of no pages nothing is dirty, whatever is used.
func TestNoPages(t *testing.T) {
	for _, used := range []bitset.Set{{}, set(2), set(1023), every()} {
		for many := range 3 {
			if !held(t, "no pages", make([][]byte, many), used) {
				t.Errorf("Clean of %d pages: false", many)
			}
		}
	}
}

// TestDirtyByte: SC1, a byte that is not 0 is found at each place of a page that is not used, and of what is no page.
func TestDirtyByte(t *testing.T) {
	for _, size := range []int{1, 2, 64, 511, 512, 513, 1024} {
		for at := range size {
			b := make([]byte, size)
			b[at] = byte(1 << (at % 8))
			pages := [][]byte{b, b, nil, b}
			if got := scrub.Dirty(pages, bitset.Set{}); !slices.Equal(got, []int{3}) {
				t.Errorf("a byte at %d of %d: %v", at, size, got)
			}
		}
	}
	for size := range 1025 {
		pages := [][]byte{nil, nil, make([]byte, size)}
		if !held(t, "noughts", pages, bitset.Set{}) {
			t.Errorf("Clean of %d noughts: false", size)
		}
	}
}

// TestEachNumber: SC1, each number from 2 on counts for itself: used or not, noughts, a page, or bytes.
func TestEachNumber(t *testing.T) {
	kinds := [][]byte{nil, make([]byte, 512), page(1, "warren"), []byte("warren"), bytes.Repeat([]byte{255}, 512)}
	for n := range 1026 {
		pages := make([][]byte, 1026)
		for i, b := range kinds {
			pages[n] = b
			ok := held(t, "none used", pages, bitset.Set{})
			if want := n < 2 || i < 2; ok != want {
				t.Errorf("Clean, page %d of the kind %d, not used: %v", n, i, ok)
			}
			if n < 1024 {
				ok = held(t, "one used", pages, set(n))
				if want := n < 2 || i == 2; ok != want {
					t.Errorf("Clean, page %d of the kind %d, used: %v", n, i, ok)
				}
			}
		}
	}
}

// TestHeads: SC1, what the pages 0 and 1 are is all the same, be they used or not.
func TestHeads(t *testing.T) {
	for _, b := range [][]byte{nil, make([]byte, 512), page(4, "head"), []byte("?"), told(1, 3, 1, 2, 3, 4)} {
		for _, used := range []bitset.Set{{}, set(0), set(1), set(0, 1), set(0, 1, 2)} {
			if !held(t, "heads", [][]byte{b, b}, used) {
				t.Errorf("Clean of the heads %x: false", b)
			}
			many, marked := scrub.Slack([][]byte{b, b}, used)
			if many != 0 || marked != 0 {
				t.Errorf("Slack of the heads %x: %d, %d", b, many, marked)
			}
		}
	}
}

// TestUsedThere: SC1, of what is used there need not be all: as far as there are such, they are pages.
func TestUsedThere(t *testing.T) {
	good := page(2, "warren")
	for many := range 9 {
		pages := slices.Repeat([][]byte{good}, many)
		if !held(t, "all used", pages, every()) {
			t.Errorf("Clean of %d pages: false", many)
		}
		ok := held(t, "one used that is not there", pages, set(many))
		if want := many <= 2; ok != want {
			t.Errorf("Clean of %d pages, %d used: %v", many, many, ok)
		}
	}
	pages := slices.Repeat([][]byte{good}, 1024)
	if !held(t, "as many as a set has", pages, every()) {
		t.Error("Clean of 1024 pages: false")
	}
	pages = append(pages, nil, good, make([]byte, 512), []byte{1})
	if got := scrub.Dirty(pages, every()); !slices.Equal(got, []int{1025, 1027}) {
		t.Errorf("Dirty, more pages than a set has: %v", got)
	}
	held(t, "more than a set has", pages, every())
}

// TestNoPage: SC1, what is used is a page, of whichever kind, and not what is none in one of its ways.
func TestNoPage(t *testing.T) {
	full := strings.Repeat("w", 504)
	for kind := range 256 {
		for _, load := range []string{"", "w", "warren", full} {
			ok := held(t, "of a kind", [][]byte{nil, nil, page(byte(kind), load)}, set(2))
			if want := kind >= 1 && kind <= 5; ok != want {
				t.Errorf("Clean, a page of the kind %d: %v", kind, ok)
			}
		}
	}
	second := page(1, "warren")[:508]
	second[1] = 1
	for _, b := range [][]byte{
		nil, {}, {1}, make([]byte, 512), page(1, "warren")[:511], append(page(1, "warren"), 0), summed(second), told(1, 505), told(1, 65535), told(1, 5, []byte("warren")...),
	} {
		if held(t, "none", [][]byte{page(9, ""), nil, page(1, ""), b, page(1, "")}, set(2, 3, 4)) {
			t.Errorf("Clean, %x used", b)
		}
	}
}

// TestBits: SC1, with a bit turned, whichever, what is used is none.
func TestBits(t *testing.T) {
	for _, load := range []string{"", "warren", strings.Repeat("w", 504)} {
		b := page(3, load)
		for place := range 8 * len(b) {
			b[place/8] ^= 1 << (place % 8)
			if scrub.Clean([][]byte{nil, nil, b}, set(2)) {
				t.Errorf("Clean, the bit %d turned", place)
			}
			b[place/8] ^= 1 << (place % 8)
		}
		if !scrub.Clean([][]byte{nil, nil, b}, set(2)) {
			t.Error("Clean, no bit turned: false")
		}
	}
}

// TestSlackLength: SC1, the slack of each length that two bytes can tell, with a right sum or not.
func TestSlackLength(t *testing.T) {
	for many := range 65536 {
		b := bytes.Repeat([]byte{7}, 512)
		b[2], b[3] = byte(many>>8), byte(many)
		want := max(0, 504-many)
		got, marked := scrub.Slack([][]byte{nil, nil, b}, set(2))
		if got != want || marked != want {
			t.Errorf("Slack, a load of %d: %d, %d", many, got, marked)
		}
		clear(b[4:508])
		got, marked = scrub.Slack([][]byte{nil, nil, b}, set(2))
		if got != want || marked != 0 {
			t.Errorf("Slack, a load of %d, noughts: %d, %d", many, got, marked)
		}
	}
}

// TestSlackPlace: SC1, a byte that is not 0 counts at each place behind a load, and at no other.
func TestSlackPlace(t *testing.T) {
	for _, many := range []int{0, 1, 2, 255, 256, 257, 502, 503, 504} {
		for at := range 512 {
			if at == 2 || at == 3 {
				continue
			}
			b := make([]byte, 512)
			b[2], b[3] = byte(many>>8), byte(many)
			b[at] = byte(1 << (at % 8))
			want := 0
			if at >= 4+many && at < 508 {
				want = 1
			}
			got, marked := scrub.Slack([][]byte{nil, nil, b}, set(2))
			if got != 504-many || marked != want {
				t.Errorf("Slack, a load of %d, a byte at %d: %d, %d", many, at, got, marked)
			}
		}
	}
}

// TestSlackSize: SC1, only what has 512 bytes has slack, and only what is used, and what is used counts together.
func TestSlackSize(t *testing.T) {
	for _, size := range []int{0, 1, 3, 4, 508, 511, 512, 513, 1024} {
		pages := [][]byte{nil, nil, bytes.Repeat([]byte{1}, size)}
		want := 0
		if size == 512 {
			want = 504 - 257
		}
		many, marked := scrub.Slack(pages, set(2))
		if many != want || marked != want {
			t.Errorf("Slack of %d bytes: %d, %d", size, many, marked)
		}
		held(t, "of a size", pages, set(2))
	}
	pages := [][]byte{page(1, ""), page(1, ""), page(1, "warren"), page(1, "w"), told(1, 1, 5, 6, 7), told(9, 2, 5, 6, 7, 0, 8)}
	for _, c := range []struct {
		used         bitset.Set
		many, marked int
	}{
		{bitset.Set{}, 0, 0},
		{set(0, 1), 0, 0},
		{set(2), 498, 0},
		{set(2, 3), 1001, 0},
		{set(4), 503, 2},
		{set(4, 5), 1005, 4},
		{every(), 2006, 4},
		{set(5, 6, 1023), 502, 2},
	} {
		many, marked := scrub.Slack(pages, c.used)
		if many != c.many || marked != c.marked {
			t.Errorf("Slack of %v: %d, %d, not %d, %d", bitset.All(c.used), many, marked, c.many, c.marked)
		}
		held(t, "together", pages, c.used)
	}
}

// TestSlackAbove: SC1, a page of a number that no set has is used by none, and has no slack.
func TestSlackAbove(t *testing.T) {
	pages := make([][]byte, 1200)
	for n := 1024; n < len(pages); n++ {
		pages[n] = told(1, 0, 1)
	}
	many, marked := scrub.Slack(pages, every())
	if many != 0 || marked != 0 {
		t.Errorf("Slack above: %d, %d", many, marked)
	}
	pages[1023] = told(1, 0, 1)
	many, marked = scrub.Slack(pages, every())
	if many != 504 || marked != 1 {
		t.Errorf("Slack of the last number: %d, %d", many, marked)
	}
}

// thrown is a page of some kind: noughts, right, wrong, or of another size.
func thrown(d *dice) []byte {
	load := strings.Repeat("w", d.under(505))
	switch d.under(12) {
	case 0:
		return nil
	case 1, 2:
		return make([]byte, 512)
	case 3:
		return []byte(load)
	case 4:
		return told(byte(d.under(7)), d.under(600), []byte(load)...)
	default:
		return page(byte(1+d.under(5)), load)
	}
}

// TestClean: SC2, clean pages have no slack that is not 0, however they come.
func TestClean(t *testing.T) {
	d := dice(22)
	seen := map[bool]int{}
	for range 4000 {
		pages := make([][]byte, d.under(9))
		var used bitset.Set
		for n := range pages {
			pages[n] = thrown(&d)
			if isPage(pages[n]) != (d.under(20) == 0) {
				used = bitset.With(used, n)
			}
		}
		seen[held(t, "thrown", pages, used)]++
	}
	if seen[true] < 400 || seen[false] < 400 {
		t.Errorf("clean: %d, not: %d: nothing is tried", seen[true], seen[false])
	}
}

// TestDirtyShares: rule 3: numbers are of their own memory, spare room too.
func TestDirtyShares(t *testing.T) {
	pages := slices.Repeat([][]byte{{1}}, 9)
	one, two := scrub.Dirty(pages, bitset.Set{}), scrub.Dirty(pages, bitset.Set{})
	want := slices.Clone(two)
	one = one[:cap(one)]
	for i := range one {
		one[i] = -1
	}
	if !slices.Equal(two, want) || !slices.Equal(scrub.Dirty(pages, bitset.Set{}), want) {
		t.Errorf("Dirty, twice: %v, not %v", two, want)
	}
}
