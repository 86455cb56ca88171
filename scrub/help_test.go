package scrub_test

import (
	"bytes"
	"math"
	"slices"
	"testing"

	"warren/bitset"
	"warren/scrub"
)

// dice are numbers that look thrown.
type dice uint32

// under is the next number, from 0 to below a bound.
func (d *dice) under(bound int) int {
	*d = *d*1664525 + 1013904223
	return int(uint32(*d)>>8) % bound
}

// plain is the sum of bytes, bit by bit, as chapter 2 tells it.
func plain(b []byte) uint32 {
	sum := uint32(math.MaxUint32)
	for _, c := range b {
		sum ^= uint32(c)
		for range 8 {
			went := sum & 1
			sum >>= 1
			if went == 1 {
				sum ^= 0x82f63b78
			}
		}
	}
	return ^sum
}

// summed are 508 bytes with their sum behind them.
func summed(b []byte) []byte {
	s := plain(b)
	return append(slices.Clone(b), byte(s>>24), byte(s>>16), byte(s>>8), byte(s))
}

// told is a page of a kind that tells of a load of so many bytes, be it as it may, with these bytes behind that, and a right sum.
func told(kind byte, many int, rest ...byte) []byte {
	b := append([]byte{kind, 0, byte(many >> 8), byte(many)}, rest...)
	return summed(append(b, make([]byte, 508-len(b))...))
}

// page is one of a kind with a load.
func page(kind byte, load string) []byte { return told(kind, len(load), []byte(load)...) }

// set are these numbers.
func set(l ...int) bitset.Set {
	var s bitset.Set
	for _, n := range l {
		s[n/64] |= 1 << (n % 64)
	}
	return s
}

// within tells whether a set has a number, as chapter 17 tells it.
func within(s bitset.Set, n int) bool { return n < 1024 && s[n/64]>>(n%64)&1 == 1 }

// every are all numbers that a set may have.
func every() bitset.Set {
	var s bitset.Set
	for i := range s {
		s[i] = math.MaxUint64
	}
	return s
}

// isNoughts tells whether bytes are 0, each of them.
func isNoughts(b []byte) bool { return len(bytes.Trim(b, "\x00")) == 0 }

// isPage tells whether bytes are a page, as chapter 5 tells it.
func isPage(b []byte) bool {
	if len(b) != 512 || !bytes.Equal(summed(b[:508]), b) {
		return false
	}
	many := int(b[2])*256 + int(b[3])
	return b[0] >= 1 && b[0] <= 5 && b[1] == 0 && many <= 504 && isNoughts(b[4+many:508])
}

// dirty are the numbers that Dirty must answer, one by one.
func dirty(pages [][]byte, used bitset.Set) []int {
	var l []int
	for n := 2; n < len(pages); n++ {
		if !within(used, n) && !isNoughts(pages[n]) {
			l = append(l, n)
		}
	}
	return l
}

// clean is what Clean must answer.
func clean(pages [][]byte, used bitset.Set) bool {
	for n := 2; n < len(pages); n++ {
		if within(used, n) && !isPage(pages[n]) {
			return false
		}
	}
	return len(dirty(pages, used)) == 0
}

// slack is what Slack must answer, byte by byte.
func slack(pages [][]byte, used bitset.Set) (int, int) {
	many, marked := 0, 0
	for n := 2; n < len(pages); n++ {
		if !within(used, n) || len(pages[n]) != 512 {
			continue
		}
		for at := 4 + int(pages[n][2])*256 + int(pages[n][3]); at < 508; at++ {
			many++
			if pages[n][at] != 0 {
				marked++
			}
		}
	}
	return many, marked
}

// copied are the same pages in other memory.
func copied(pages [][]byte) [][]byte {
	l := slices.Clone(pages)
	for i := range l {
		l[i] = slices.Clone(l[i])
	}
	return l
}

// held fails, unless all three calls answer what the chapter's words say of these pages, and leave them as they are;
// it answers what Clean tells.
func held(t *testing.T, what string, pages [][]byte, used bitset.Set) bool {
	t.Helper()
	was, set := copied(pages), used
	if got, want := scrub.Dirty(pages, used), dirty(was, set); !slices.Equal(got, want) {
		t.Errorf("%s: Dirty: %v, not %v", what, got, want)
	}
	ok := scrub.Clean(pages, used)
	if want := clean(was, set); ok != want {
		t.Errorf("%s: Clean: %v, not %v", what, ok, want)
	}
	many, marked := scrub.Slack(pages, used)
	if a, b := slack(was, set); many != a || marked != b {
		t.Errorf("%s: Slack: %d, %d, not %d, %d", what, many, marked, a, b)
	}
	if ok && marked != 0 {
		t.Errorf("%s: clean pages with slack that is not 0", what)
	}
	if !slices.EqualFunc(pages, was, bytes.Equal) {
		t.Errorf("%s: what was handed in is changed", what)
	}
	return ok
}
