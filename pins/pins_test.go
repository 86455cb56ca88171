package pins_test

import (
	"errors"
	"math"
	"slices"
	"testing"

	"warren/api"
	"warren/bitset"
	"warren/pins"
)

// last is the greatest number that a reader can have.
const last = 1 << 62

// dice are numbers that look thrown.
type dice uint32

// throw is the next number, from 0 to below a bound.
func (d *dice) throw(below int) int {
	*d = *d*1664525 + 1013904223
	return int(uint32(*d)>>8) % below
}

// of are readers of those numbers, each of a commit and pages of its own.
func of(next uint64, ids ...uint64) pins.Pins {
	p := pins.Pins{Next: next}
	for i, id := range ids {
		p.L = append(p.L, pins.Pin{ID: id, Seq: 100 - uint64(i), Pages: bitset.Set{0: 1 << i, 15: 1 << 63}})
	}
	return p
}

// row are readers of so many numbers, one behind the other, up to the greatest that was given.
func row(next uint64, many int) pins.Pins {
	var ids []uint64
	for i := range many {
		ids = append(ids, next-uint64(many-1-i))
	}
	return of(next, ids...)
}

// may tells whether pins may be, as the words say.
func may(p pins.Pins) bool {
	for i, a := range p.L {
		if a.ID < 1 || a.ID > p.Next {
			return false
		}
		for _, b := range p.L[i+1:] {
			if b.ID <= a.ID {
				return false
			}
		}
	}
	return len(p.L) <= 8 && p.Next <= last
}

// clone are pins as they are, in memory of their own.
func clone(p pins.Pins) pins.Pins { return pins.Pins{Next: p.Next, L: slices.Clone(p.L)} }

// same fails, unless pins are those.
func same(t *testing.T, what string, p, want pins.Pins) {
	t.Helper()
	if p.Next != want.Next || !slices.Equal(p.L, want.L) {
		t.Fatalf("%s: %v, not %v", what, p, want)
	}
}

// wrong fails, unless an error's number is that one.
func wrong(t *testing.T, what string, p pins.Pins, err error, want api.Errno) {
	t.Helper()
	var no api.Errno
	if !errors.As(err, &no) || no != want {
		t.Fatalf("%s, of %v: %v, not %v", what, p, err, want)
	}
}

// checked fails, unless Check says of pins what the words say.
func checked(t *testing.T, p pins.Pins) {
	t.Helper()
	if err := pins.Check(p); !may(p) {
		wrong(t, "Check", p, err, api.ErrArg)
	} else if err != nil {
		t.Fatalf("Check, of %v: %v", p, err)
	}
}

// opened fails, unless Open answers of pins what the rule says.
func opened(t *testing.T, p pins.Pins, seq uint64, pages bitset.Set) {
	t.Helper()
	got, id, err := pins.Open(p, seq, pages)
	if !may(p) || len(p.L) == 8 || p.Next == last {
		want := api.ErrFull
		if !may(p) {
			want = api.ErrArg
		}
		wrong(t, "Open", p, err, want)
		same(t, "Open, beside an error", got, pins.Pins{})
		if id != 0 {
			t.Fatalf("Open, of %v: %d beside an error", p, id)
		}
		return
	}
	want := clone(p)
	want.Next++
	want.L = append(want.L, pins.Pin{ID: want.Next, Seq: seq, Pages: pages})
	same(t, "Open", got, want)
	if id != want.Next || err != nil {
		t.Fatalf("Open, of %v: %d, %v, not %d", p, id, err, want.Next)
	}
	checked(t, got)
}

// asked fails, unless Get and Close answer of pins and a number what the rule says.
func asked(t *testing.T, p pins.Pins, id uint64) {
	t.Helper()
	pin, err := pins.Get(p, id)
	less, gone := pins.Close(p, id)
	var there, others []pins.Pin
	for _, pin := range p.L {
		if pin.ID == id {
			there = append(there, pin)
		} else {
			others = append(others, pin)
		}
	}
	if may(p) && len(there) == 1 {
		if pin != there[0] || err != nil || gone != nil {
			t.Fatalf("Get, Close of %v and %d: %v, %v, %v", p, id, pin, err, gone)
		}
		same(t, "Close", less, pins.Pins{Next: p.Next, L: others})
		checked(t, less)
		return
	}
	want := api.ErrNone
	if !may(p) {
		want = api.ErrArg
	}
	wrong(t, "Get", p, err, want)
	wrong(t, "Close", p, gone, want)
	same(t, "Close, beside an error", less, pins.Pins{})
	if pin != (pins.Pin{}) {
		t.Fatalf("Get, of %v and %d: %v beside an error", p, id, pin)
	}
}

// seen fails, unless Held and Oldest answer of pins what their readers, page by page and commit by commit, say.
func seen(t *testing.T, p pins.Pins) {
	t.Helper()
	var l []pins.Pin
	if may(p) {
		l = p.L
	}
	held := pins.Held(p)
	for n := range 1024 {
		want := slices.ContainsFunc(l, func(pin pins.Pin) bool { return bitset.Has(pin.Pages, n) })
		if bitset.Has(held, n) != want {
			t.Fatalf("Held, of %v: of page %d %v", p, n, !want)
		}
	}
	var seqs []uint64
	for _, pin := range l {
		seqs = append(seqs, pin.Seq)
	}
	slices.Sort(seqs)
	seqs = append(seqs, 0) // what stands beside a no
	if seq, ok := pins.Oldest(p); seq != seqs[0] || ok != (len(l) > 0) {
		t.Fatalf("Oldest, of %v: %d, %v", p, seq, ok)
	}
}

// whole fails, unless each call answers of pins what the chapter says, and leaves them as they were.
func whole(t *testing.T, p pins.Pins) {
	t.Helper()
	was := clone(p)
	checked(t, p)
	opened(t, p, 7, bitset.Set{3: 9})
	seen(t, p)
	for _, id := range []uint64{0, 1, 2, 3, 4, 5, 6, p.Next - 1, p.Next, p.Next + 1, last - 1, last, last + 1, math.MaxInt64, 1 << 63, math.MaxUint64} {
		asked(t, p, id)
	}
	for _, pin := range p.L {
		asked(t, p, pin.ID)
	}
	same(t, "what was handed in", p, was)
}

// TestWritten: PI1, written out: the first reader is 1, the next one 2, whoever is gone.
func TestWritten(t *testing.T) {
	a, b := bitset.Set{0b0110}, bitset.Set{0b1100, 1}
	p, id, err := pins.Open(pins.Pins{}, 9, a)
	if id != 1 || err != nil {
		t.Fatalf("the first reader: %d, %v", id, err)
	}
	same(t, "one reader", p, pins.Pins{Next: 1, L: []pins.Pin{{ID: 1, Seq: 9, Pages: a}}})
	p, id, err = pins.Open(p, 5, b)
	if id != 2 || err != nil {
		t.Fatalf("the second reader: %d, %v", id, err)
	}
	same(t, "two readers", p, pins.Pins{Next: 2, L: []pins.Pin{{ID: 1, Seq: 9, Pages: a}, {ID: 2, Seq: 5, Pages: b}}})
	if seq, ok := pins.Oldest(p); seq != 5 || !ok {
		t.Fatalf("Oldest: %d, %v", seq, ok)
	}
	if held := pins.Held(p); held != (bitset.Set{0b1110, 1}) {
		t.Fatalf("Held: %x", held)
	}
	if pin, err := pins.Get(p, 1); pin != (pins.Pin{ID: 1, Seq: 9, Pages: a}) || err != nil {
		t.Fatalf("Get: %v, %v", pin, err)
	}
	p, err = pins.Close(p, 2)
	same(t, "without the second", p, pins.Pins{Next: 2, L: []pins.Pin{{ID: 1, Seq: 9, Pages: a}}})
	if held := pins.Held(p); held != a || err != nil {
		t.Fatalf("Held, without the second: %x, %v", held, err)
	}
	p, id, err = pins.Open(p, 5, b)
	if id != 3 || err != nil {
		t.Fatalf("the third reader: %d, %v", id, err)
	}
	_, err = pins.Get(p, 2)
	wrong(t, "Get, of one that is gone", p, err, api.ErrNone)
	if err := pins.Check(p); err != nil {
		t.Fatalf("Check: %v", err)
	}
}

// TestNone: PI1, no readers at all, by nil and by an empty list, at each edge of the numbers.
func TestNone(t *testing.T) {
	for _, next := range []uint64{0, 1, 2, last - 2, last - 1, last, last + 1, 1 << 63, math.MaxUint64} {
		whole(t, pins.Pins{Next: next})
		whole(t, pins.Pins{Next: next, L: []pins.Pin{}})
	}
}

// each hands on all lists of up to so many of those numbers.
func each(ids []uint64, most int, to func([]uint64)) {
	var grow func(l []uint64)
	grow = func(l []uint64) {
		to(l)
		if len(l) == most {
			return
		}
		for _, id := range ids {
			grow(append(slices.Clone(l), id))
		}
	}
	grow(nil)
}

// TestEach: PI1, each list of up to three readers with few numbers, in order and not, one twice, 0, and above the greatest.
func TestEach(t *testing.T) {
	for next := range uint64(5) {
		each([]uint64{0, 1, 2, 3, 4, 5}, 3, func(l []uint64) { whole(t, of(next, l...)) })
	}
}

// TestGreatest: PI1, the greatest numbers: no reader's is above 2^62, and behind that one there is none.
func TestGreatest(t *testing.T) {
	for _, next := range []uint64{last - 2, last - 1, last, last + 1, 1 << 63, math.MaxUint64} {
		each([]uint64{0, 1, last - 1, last, last + 1, math.MaxInt64, 1 << 63, math.MaxUint64}, 2, func(l []uint64) { whole(t, of(next, l...)) })
	}
}

// TestMany: PI1, as many readers as there may be, one less and more, with numbers in a row or apart, at the edge of the numbers too.
func TestMany(t *testing.T) {
	for many := range 20 {
		for _, next := range []uint64{uint64(many), 20, last - 1, last, last + 1} {
			whole(t, row(next, many))
		}
	}
	whole(t, of(99, 1, 5, 6, 20, 21, 22, 50))
	whole(t, of(99, 1, 5, 6, 20, 21, 22, 50, 99))
	whole(t, of(99, 1, 5, 6, 20, 21, 22, 50, 98, 99))
}

// TestWrongPlace: PI1, eight readers, of whom one, at each place, has a number that it may not have.
func TestWrongPlace(t *testing.T) {
	for at := range 8 {
		for _, id := range []uint64{0, 10, 20, 30, 40, 50, 60, 70, 80, 90, 91, 1 << 62, 1 << 63, math.MaxUint64} {
			p := of(90, 10, 20, 30, 40, 50, 60, 70, 80)
			p.L[at].ID = id
			whole(t, p)
		}
	}
}

// TestFull: PI1, that there are eight, or that no number is left, is told only of pins that may be.
func TestFull(t *testing.T) {
	for _, p := range []pins.Pins{row(8, 8), row(last-1, 8), row(last, 8), row(last, 1), row(last, 0), of(last, 1)} {
		_, _, err := pins.Open(p, 1, bitset.Set{})
		wrong(t, "Open", p, err, api.ErrFull)
	}
	for _, p := range []pins.Pins{row(9, 9), row(last+1, 8), row(last+1, 0), of(last, 2, 1), of(7, 1, 2, 3, 4, 5, 6, 7, 8)} {
		_, _, err := pins.Open(p, 1, bitset.Set{})
		wrong(t, "Open", p, err, api.ErrArg)
	}
	p, id, err := pins.Open(row(last-1, 7), 1, bitset.Set{})
	if id != last || err != nil {
		t.Fatalf("the last number: %d, %v", id, err)
	}
	same(t, "up to the last number", pins.Pins{Next: p.Next, L: p.L[:7]}, pins.Pins{Next: last, L: row(last-1, 7).L})
}

// TestOldest: PI1, the least of the commits, at each place, twice or not, and at both ends of the numbers.
func TestOldest(t *testing.T) {
	seqs := []uint64{0, 1, 2, 7, last, last + 1, math.MaxInt64, 1 << 63, math.MaxUint64 - 1, math.MaxUint64}
	for many := 1; many <= 8; many++ {
		for at := range many {
			for i, low := range seqs {
				for _, high := range seqs[i:] {
					p := row(30, many)
					for i := range p.L {
						p.L[i].Seq = high
					}
					p.L[at].Seq = low
					if seq, ok := pins.Oldest(p); seq != low || !ok {
						t.Fatalf("Oldest, of %v: %d, %v", p, seq, ok)
					}
				}
			}
		}
	}
}

// TestHeld: PI2, a page is held by none, by one, by some or by all of eight readers, and as long as one of them is there.
func TestHeld(t *testing.T) {
	p := row(8, 8)
	for i := range p.L {
		p.L[i].Pages = bitset.Set{}
		for n := range 1024 {
			if n>>i&1 != 0 {
				p.L[i].Pages = bitset.With(p.L[i].Pages, n)
			}
		}
	}
	for gone := range 256 {
		less, left := p, 0
		for i := range 8 {
			var err error
			if gone>>i&1 == 0 {
				left |= 1 << i
			} else if less, err = pins.Close(less, uint64(i+1)); err != nil {
				t.Fatalf("Close, of %d: %v", i+1, err)
			}
		}
		held := pins.Held(less)
		for n := range 1024 {
			if bitset.Has(held, n) != (n&left != 0) {
				t.Fatalf("page %d, while those of %08b are there: held %v", n, left, n&left == 0)
			}
		}
	}
}

// spoil writes over a list, and over what room it has to spare.
func spoil(l []pins.Pin) {
	l = l[:cap(l)]
	for i := range l {
		l[i] = pins.Pin{ID: 77, Seq: 77, Pages: bitset.Set{77}}
	}
}

// roomy are pins whose list has room to spare, full of something else.
func roomy(p pins.Pins, spare int) pins.Pins {
	l := make([]pins.Pin, len(p.L)+spare)
	spoil(l)
	copy(l, p.L)
	return pins.Pins{Next: p.Next, L: l[:len(p.L)]}
}

// TestOwnMemory: rule 3, that what is answered is nobody else's, spare room too, and what is handed in stays, its spare room too.
func TestOwnMemory(t *testing.T) {
	for many := range 8 {
		for spare := range 4 {
			p := roomy(row(20, many), spare)
			room := slices.Clone(p.L[:many+spare])
			more, id, err := pins.Open(p, 3, bitset.Set{5})
			twin, _, twice := pins.Open(p, 4, bitset.Set{6})
			if err != nil || twice != nil || id != 21 || !slices.Equal(p.L[:many+spare], room) {
				t.Fatalf("Open, with room for %d: %d, %v, %v, %v", spare, id, err, twice, p.L[:many+spare])
			}
			spoil(twin.L)
			same(t, "Open", more, pins.Pins{Next: 21, L: append(row(20, many).L, pins.Pin{ID: 21, Seq: 3, Pages: bitset.Set{5}})})
			for _, pin := range row(20, many).L {
				less, err := pins.Close(p, pin.ID)
				if err != nil {
					t.Fatalf("Close, of %d: %v", pin.ID, err)
				}
				spoil(less.L)
				if !slices.Equal(p.L[:many+spare], room) {
					t.Fatalf("Close, of %d, with room for %d: %v", pin.ID, spare, p.L[:many+spare])
				}
			}
		}
	}
}

// walker are pins, and beside them which readers there are and who was there ever.
type walker struct {
	p    pins.Pins
	l    []pins.Pin
	ever map[uint64]int
}

// open opens a reader, in both.
func (w *walker) open(t *testing.T, d *dice) {
	t.Helper()
	pin := pins.Pin{Seq: uint64(d.throw(50))}
	for range d.throw(30) {
		pin.Pages = bitset.With(pin.Pages, d.throw(1024))
	}
	p, id, err := pins.Open(w.p, pin.Seq, pin.Pages)
	if len(w.l) == 8 {
		wrong(t, "Open", w.p, err, api.ErrFull)
		return
	}
	if err != nil || w.ever[id] > 0 || id != uint64(len(w.ever)+1) {
		t.Fatalf("Open, of %v: %d, %v; that one was given %d times", w.p, id, err, w.ever[id])
	}
	pin.ID = id
	w.p, w.l, w.ever[id] = p, append(w.l, pin), 1
}

// close ends a reader, in both, if there is one of a number that is thrown.
func (w *walker) close(t *testing.T, d *dice) {
	t.Helper()
	id := uint64(d.throw(len(w.ever) + 2))
	if len(w.l) > 0 && d.throw(3) > 0 {
		id = w.l[d.throw(len(w.l))].ID
	}
	asked(t, w.p, id)
	p, err := pins.Close(w.p, id)
	if err == nil {
		w.p = p
		w.l = slices.DeleteFunc(w.l, func(pin pins.Pin) bool { return pin.ID == id })
	}
}

// TestWalk: PI1 and PI2, readers that come and go: no number comes twice, and what is held is what those hold who are there.
func TestWalk(t *testing.T) {
	for seed := range 8 {
		w := walker{ever: map[uint64]int{}}
		d := dice(seed)
		for range 400 {
			if d.throw(9) < 5 {
				w.open(t, &d)
			} else {
				w.close(t, &d)
			}
			same(t, "a walk", w.p, pins.Pins{Next: uint64(len(w.ever)), L: w.l})
			checked(t, w.p)
			seen(t, w.p)
		}
	}
}
