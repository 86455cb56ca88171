package bitset_test

import (
	"math"
	"slices"
	"testing"

	"warren/api"
	"warren/bitset"
)

// taken fails, unless Take answers of a set what its numbers, one by one, say.
func taken(t *testing.T, s bitset.Set, many int) {
	t.Helper()
	has := told(s)
	had := listed(has)
	l, rest, err := bitset.Take(s, many)
	if many < 0 || many > len(had) {
		if len(l) != 0 || rest != (bitset.Set{}) {
			t.Fatalf("Take(%v, %d): %v, %x beside an error", had, many, l, rest)
		}
		want := api.ErrQuota
		if many < 0 {
			want = api.ErrArg
		}
		wrong(t, "Take", err, want)
		return
	}
	for _, n := range had[:many] {
		has[n] = false
	}
	if !slices.Equal(l, had[:many]) || err != nil {
		t.Fatalf("Take(%v, %d): %v, %v", had, many, l, err)
	}
	same(t, "Take", rest, has)
}

// TestTake: BS1, of sets of all kinds each number that is there, and up to more than there are.
func TestTake(t *testing.T) {
	for _, s := range some() {
		for many := -3; many <= len(listed(told(s)))+3; many++ {
			taken(t, s, many)
		}
	}
}

// TestTakeWrong: BS1, numbers below 0 and numbers that are not there, of no set, a full one and others.
func TestTakeWrong(t *testing.T) {
	for _, s := range some() {
		for _, many := range []int{math.MinInt, math.MinInt + 1, math.MinInt32, -1 << 32, -1024, -1, 1024, 1025, 1 << 16, 1 << 32, math.MaxInt - 1, math.MaxInt} {
			taken(t, s, many)
		}
	}
}

// TestOwnMemory: rule 3, that what is answered is nobody else's, spare room too, and what is handed in stays.
func TestOwnMemory(t *testing.T) {
	for _, s := range some() {
		was, had := s, listed(told(s))
		one, two := bitset.All(s), bitset.All(s)
		half, rest, err := bitset.Take(s, len(had)/2)
		if err != nil {
			t.Fatalf("Take(%v, %d): %v", had, len(had)/2, err)
		}
		left := rest
		spoil(one)
		spoil(half)
		if s != was || rest != left || !slices.Equal(two, had) || !slices.Equal(bitset.All(s), had) {
			t.Fatalf("%v is no more than %v", had, two)
		}
		again, _, err := bitset.Take(s, len(had)/2)
		if !slices.Equal(again, had[:len(had)/2]) || err != nil {
			t.Fatalf("Take(%v, %d), again: %v, %v", had, len(had)/2, again, err)
		}
	}
}

// spoil writes over a list, and over what room it has to spare.
func spoil(l []int) {
	l = l[:cap(l)]
	for i := range l {
		l[i] = -7
	}
}

// walker is a set, and beside it what its numbers are, one by one.
type walker struct {
	s   bitset.Set
	has [numbers]bool
}

// step does what a throw of the dice says, to both.
func (w *walker) step(t *testing.T, d *dice) {
	t.Helper()
	n := d.throw(numbers+40) - 20
	switch d.throw(6) {
	case 0, 1, 2:
		w.s = bitset.With(w.s, n)
		if n >= 0 && n < numbers {
			w.has[n] = true
		}
	case 3:
		w.s = bitset.Without(w.s, n)
		if n >= 0 && n < numbers {
			w.has[n] = false
		}
	case 4:
		w.take(t, d.throw(20))
	default:
		w.mix(d)
	}
}

// take takes the first numbers out of both, if there are so many.
func (w *walker) take(t *testing.T, many int) {
	t.Helper()
	taken(t, w.s, many)
	l, rest, err := bitset.Take(w.s, many)
	if err != nil {
		return
	}
	w.s = rest
	for _, n := range l {
		w.has[n] = false
	}
}

// mix puts few numbers to both, and takes few others away.
func (w *walker) mix(d *dice) {
	more, fewer, keep := thrown(d, 3), thrown(d, 3), 900+d.throw(200)
	w.s = bitset.Both(bitset.Less(bitset.Either(w.s, more), fewer), bitset.Below(keep))
	added, gone := told(more), told(fewer)
	for n := range w.has {
		w.has[n] = (w.has[n] || added[n]) && !gone[n] && n < keep
	}
}

// TestWalk: BS1 and BS2, sets that get numbers and lose them, step by step.
func TestWalk(t *testing.T) {
	for seed := range 8 {
		var w walker
		d := dice(seed)
		for range 300 {
			w.step(t, &d)
			same(t, "a walk", w.s, w.has)
			want := listed(w.has)
			if l := bitset.All(w.s); !slices.Equal(l, want) || bitset.Count(w.s) != len(want) {
				t.Fatalf("a walk: %v, %d, not %v", l, bitset.Count(w.s), want)
			}
			parted(t, w.s, thrown(&d, 50))
		}
	}
}
