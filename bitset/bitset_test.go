package bitset_test

import (
	"errors"
	"math"
	"slices"
	"testing"

	"warren/api"
	"warren/bitset"
)

// numbers are all that a set may have.
const numbers = 1024

// far are numbers that no set has.
var far = []int{math.MinInt, math.MinInt + 1, math.MinInt + 960, math.MinInt + 1024, math.MinInt32, -1 << 32, -1025, -1024, -65, -64, -63, -2, -1, 1024, 1025, 1087, 1088, 2047, 2048, 1 << 16, math.MaxInt32, 1 << 32, 1<<32 + 5, math.MaxInt - 1023, math.MaxInt - 1, math.MaxInt}

// dice are numbers that look thrown.
type dice uint32

// throw is the next number, from 0 to below a bound.
func (d *dice) throw(below int) int {
	*d = *d*1664525 + 1013904223
	return int(uint32(*d)>>8) % below
}

// told are the numbers of a set, one by one, as the words say.
func told(s bitset.Set) [numbers]bool {
	var has [numbers]bool
	for i, word := range s {
		for place := range 64 {
			has[64*i+place] = word%2 == 1
			word /= 2
		}
	}
	return has
}

// listed are the numbers that are told, ascending.
func listed(has [numbers]bool) []int {
	var l []int
	for n, ok := range has {
		if ok {
			l = append(l, n)
		}
	}
	return l
}

// laid is the set of those that are told, its bits added up one by one.
func laid(has [numbers]bool) bitset.Set {
	var s bitset.Set
	worth := uint64(1)
	for n, ok := range has {
		if n%64 == 0 {
			worth = 1
		}
		if ok {
			s[n/64] += worth
		}
		worth *= 2
	}
	return s
}

// where is the set of all numbers of which a rule holds.
func where(rule func(n int) bool) bitset.Set {
	var has [numbers]bool
	for n := range has {
		has[n] = rule(n)
	}
	return laid(has)
}

// thrown is a set of about so many numbers of each hundred.
func thrown(d *dice, percent int) bitset.Set {
	return where(func(int) bool { return d.throw(100) < percent })
}

// some are sets of all kinds: none, all, one number, all but one, words that are full, rows, and thrown ones.
func some() []bitset.Set {
	d := dice(17)
	l := []bitset.Set{
		where(func(int) bool { return false }), where(func(int) bool { return true }),
		where(func(n int) bool { return n%2 == 0 }), where(func(n int) bool { return n%3 == 1 }),
		where(func(n int) bool { return n%64 == 0 }), where(func(n int) bool { return n%64 == 63 }),
		where(func(n int) bool { return n/64%2 == 0 }), where(func(n int) bool { return n/64 == 15 }),
		where(func(n int) bool { return n >= 2 && n < 40 }), where(func(n int) bool { return n > 60 && n < 70 }),
		where(func(n int) bool { return n >= 512 }), where(func(n int) bool { return n < 512 }),
	}
	for _, at := range []int{0, 1, 31, 32, 62, 63, 64, 65, 127, 128, 511, 512, 959, 960, 1022, 1023} {
		l = append(l, where(func(n int) bool { return n == at }), where(func(n int) bool { return n != at }))
	}
	for _, percent := range []int{1, 5, 20, 50, 80, 95, 99} {
		l = append(l, thrown(&d, percent), thrown(&d, percent))
	}
	return l
}

// wrong fails, unless an error's number is that one.
func wrong(t *testing.T, what string, err error, want api.Errno) {
	t.Helper()
	var no api.Errno
	if !errors.As(err, &no) || no != want {
		t.Fatalf("%s: %v, not %v", what, err, want)
	}
}

// same fails, unless a set is the one of the numbers that are told.
func same(t *testing.T, what string, s bitset.Set, has [numbers]bool) {
	t.Helper()
	if s != laid(has) {
		t.Fatalf("%s: %v, not %v", what, listed(told(s)), listed(has))
	}
}

// TestWritten: BS1, written out: small sets at the edges of a word.
func TestWritten(t *testing.T) {
	s := bitset.With(bitset.With(bitset.With(bitset.Set{}, 64), 1023), 0)
	if s != (bitset.Set{0: 1, 1: 1, 15: 1 << 63}) {
		t.Fatalf("with 64, 1023 and 0: %x", s)
	}
	if l := bitset.All(s); !slices.Equal(l, []int{0, 64, 1023}) || bitset.Count(s) != 3 {
		t.Fatalf("All, Count: %v, %d", l, bitset.Count(s))
	}
	if s = bitset.Without(s, 64); s != (bitset.Set{0: 1, 15: 1 << 63}) || bitset.Has(s, 64) || !bitset.Has(s, 0) || !bitset.Has(s, 1023) {
		t.Fatalf("without 64: %x", s)
	}
	if s = bitset.Below(3); s != (bitset.Set{7}) || !slices.Equal(bitset.All(s), []int{0, 1, 2}) {
		t.Fatalf("below 3: %x", s)
	}
	if s = bitset.Below(65); s != (bitset.Set{1<<64 - 1, 1}) {
		t.Fatalf("below 65: %x", s)
	}
	a, b := bitset.Set{0b1100, 0, 1 << 63}, bitset.Set{0b1010, 1, 1 << 63}
	if s = bitset.Both(a, b); s != (bitset.Set{0b1000, 0, 1 << 63}) {
		t.Fatalf("both: %x", s)
	}
	if s = bitset.Either(a, b); s != (bitset.Set{0b1110, 1, 1 << 63}) {
		t.Fatalf("either: %x", s)
	}
	if s = bitset.Less(a, b); s != (bitset.Set{0b0100}) {
		t.Fatalf("less: %x", s)
	}
	l, rest, err := bitset.Take(bitset.Set{0b1010, 1, 1 << 63}, 3)
	if !slices.Equal(l, []int{1, 3, 64}) || rest != (bitset.Set{2: 1 << 63}) || err != nil {
		t.Fatalf("take 3: %v, %x, %v", l, rest, err)
	}
}

// TestOne: BS1, each number in sets of all kinds: whether one has it, with it and without it.
func TestOne(t *testing.T) {
	for _, s := range some() {
		was := told(s)
		for n := range numbers {
			if bitset.Has(s, n) != was[n] {
				t.Fatalf("Has(%v, %d): %v", listed(was), n, !was[n])
			}
			has := was
			has[n] = true
			same(t, "With", bitset.With(s, n), has)
			has[n] = false
			same(t, "Without", bitset.Without(s, n), has)
		}
	}
}

// TestFar: BS1, numbers below 0, and above 1,023: they are in no set, and change none.
func TestFar(t *testing.T) {
	asked := slices.Clone(far)
	for n := range 2 * numbers {
		asked = append(asked, -1-n, numbers+n)
	}
	for _, s := range some() {
		for _, n := range asked {
			if bitset.Has(s, n) {
				t.Fatalf("Has(%x, %d)", s, n)
			}
			if with, without := bitset.With(s, n), bitset.Without(s, n); with != s || without != s {
				t.Fatalf("with %d: %x, without: %x, not %x", n, with, without, s)
			}
		}
	}
}

// TestAll: BS1, how many numbers a set has, and which.
func TestAll(t *testing.T) {
	for _, s := range some() {
		want := listed(told(s))
		if l := bitset.All(s); !slices.Equal(l, want) {
			t.Fatalf("All(%x): %v, not %v", s, l, want)
		}
		if n := bitset.Count(s); n != len(want) {
			t.Fatalf("Count(%x): %d, not %d", s, n, len(want))
		}
	}
}

// TestBelow: BS1, each number from far below 0 to far above what a set has.
func TestBelow(t *testing.T) {
	asked := slices.Clone(far)
	for n := range 4 * numbers {
		asked = append(asked, n-2*numbers)
	}
	for _, n := range asked {
		var has [numbers]bool
		for i := range has {
			has[i] = i < n
		}
		same(t, "Below", bitset.Below(n), has)
	}
}

// TestPairs: BS1, two sets of all kinds, number by number; and BS2, that those in both, and those in the first alone, are the first.
func TestPairs(t *testing.T) {
	for _, a := range some() {
		for _, b := range some() {
			first, second := told(a), told(b)
			var both, either, less [numbers]bool
			for n := range numbers {
				both[n] = first[n] && second[n]
				either[n] = first[n] || second[n]
				less[n] = first[n] && !second[n]
			}
			same(t, "Both", bitset.Both(a, b), both)
			same(t, "Either", bitset.Either(a, b), either)
			same(t, "Less", bitset.Less(a, b), less)
			parted(t, a, b)
		}
	}
}

// parted fails, unless those in both, and those in the first one alone, are the first one, each once.
func parted(t *testing.T, a, b bitset.Set) {
	t.Helper()
	both, less := bitset.Both(a, b), bitset.Less(a, b)
	if s := bitset.Either(both, less); s != a {
		t.Fatalf("%x and %x: %x, not %x", both, less, s, a)
	}
	if s := bitset.Both(both, less); s != (bitset.Set{}) {
		t.Fatalf("%x is in both and in the first one alone", s)
	}
	if n := bitset.Count(both) + bitset.Count(less); n != bitset.Count(a) {
		t.Fatalf("%d numbers, not %d", n, bitset.Count(a))
	}
}
