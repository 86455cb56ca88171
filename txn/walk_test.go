package txn_test

import (
	"bytes"
	"errors"
	"slices"
	"strings"
	"testing"

	"warren/api"
	"warren/bitset"
	"warren/device"
	"warren/pins"
	"warren/space"
	"warren/tree"
)

// seen is a transaction as the chapter's words tell it: what it sees, and on which pages lay what it saw as it began.
type seen struct {
	id, seq uint64
	write   bool
	tree    tree.Tree
	began   tree.Tree
	list    []api.Entry // of the one that it began with
	pages   []int
}

// book is a room as the chapter's words tell it, over a space of its own.
type book struct {
	d    *device.Device
	s    *space.Space
	next uint64
	l    []*seen
}

// of is the one of a number.
func (b *book) of(id uint64) *seen {
	for _, x := range b.l {
		if x.id == id {
			return x
		}
	}
	return nil
}

// many are how many write, or read.
func (b *book) many(write bool) int {
	n := 0
	for _, x := range b.l {
		if x.write == write {
			n++
		}
	}
	return n
}

// held are all pages that readers hold, and the writer, if it is asked for.
func (b *book) held(writer bool) bitset.Set {
	var s bitset.Set
	for _, x := range b.l {
		for _, page := range x.pages {
			if writer || !x.write {
				s = bitset.With(s, page)
			}
		}
	}
	return s
}

// pins are its readers.
func (b *book) pins() pins.Pins {
	p := pins.Pins{Next: b.next}
	for _, x := range b.l {
		if !x.write {
			pin := pins.Pin{ID: x.id, Seq: x.seq}
			for _, page := range x.pages {
				pin.Pages = bitset.With(pin.Pages, page)
			}
			p.L = append(p.L, pin)
		}
	}
	return p
}

// begin begins one.
func (b *book) begin(write bool) (uint64, error) {
	switch {
	case write && b.many(true) == 1:
		return 0, api.ErrBusy
	case !write && b.many(false) == 8:
		return 0, api.ErrFull
	}
	b.next++
	u := b.s.Tree()
	b.l = append(b.l, &seen{id: b.next, seq: b.s.Seq(), write: write, tree: u, began: u, list: tree.All(u), pages: bitset.All(b.s.Used())})
	return b.next, nil
}

// set lets the writer see another tree.
func (b *book) set(id uint64, u tree.Tree) error {
	x := b.of(id)
	switch {
	case x == nil:
		return api.ErrNone
	case !x.write:
		return api.ErrArg
	}
	x.tree = u
	return nil
}

// end ends one; commit tells how.
func (b *book) end(id uint64, commit bool) error {
	x := b.of(id)
	if x == nil {
		return api.ErrNone
	}
	if x.write && commit {
		if err := b.s.Commit(x.tree, b.held(true)); err != nil {
			return err
		}
	}
	b.l = slices.DeleteFunc(b.l, func(y *seen) bool { return y == x })
	if x.write {
		return b.s.Release(b.held(false))
	}
	return b.s.Release(b.held(true))
}

// walk is a room on its way, and the book of it.
type walk struct {
	dice
	*ground
	b     book
	ended []uint64
	many  map[string]int // how often what came of an act
}

// both are the room's space, and the book's.
func (w *walk) both() [2]*space.Space { return [2]*space.Space{w.s, w.b.s} }

// agree fails, unless both errors are the same, and both devices.
func (w *walk) agree(t *testing.T, what string, got, want error) {
	t.Helper()
	var a, b api.Errno
	errors.As(got, &a)
	errors.As(want, &b)
	if a != b || (got == nil) != (want == nil) {
		t.Fatalf("%s: %v, not %v", what, got, want)
	}
	w.many[what+", "+b.Error()]++
	if w.d.Down() != w.b.d.Down() || !slices.Equal(w.d.Waiting(), w.b.d.Waiting()) {
		t.Fatalf("%s: one of both devices goes down, or other sectors wait", what)
	}
	one, other := w.d.Copy(), w.b.d.Copy()
	keep := slices.Repeat([]bool{true}, len(w.d.Waiting())*w.under(2))
	one.Crash(keep)
	other.Crash(keep)
	for n := range one.Pages() {
		p, _ := one.ReadPage(n)
		q, _ := other.ReadPage(n)
		if !bytes.Equal(p, q) {
			t.Fatalf("%s: page %d of the device is another one", what, n)
		}
	}
}

// id is the number of a transaction that is there, or, now and then, of none.
func (w *walk) id() uint64 {
	if k := w.under(12); k == 0 && len(w.ended) > 0 {
		return w.ended[w.under(len(w.ended))]
	} else if k == 1 {
		return w.b.next + 1
	} else if k == 2 {
		return 0
	}
	if len(w.b.l) == 0 {
		return 1
	}
	return w.b.l[w.under(len(w.b.l))].id
}

// tree is one that is made of what lasts, or of what a transaction sees, or of nothing.
func (w *walk) tree(t *testing.T) tree.Tree {
	t.Helper()
	u := w.s.Tree()
	if k := w.under(10); k == 0 {
		u = tree.Tree{}
	} else if k < 6 && len(w.b.l) > 0 {
		x := w.b.l[w.under(len(w.b.l))]
		seen, err := w.r.Tree(x.id)
		good(t, "Tree", err)
		u = seen
	}
	for range w.under(5) {
		key := string(rune('a'+w.under(8))) + strings.Repeat("k", w.under(3)*10)
		switch w.under(8) {
		case 0, 1, 2:
			u, _ = tree.Delete(u, key)
		case 3:
			u, _ = tree.Put(u, key, strings.Repeat("l", 65+w.under(800)))
		default:
			u, _ = tree.Put(u, key, strings.Repeat("v", w.under(65)))
		}
	}
	return u
}

// act does something to both.
func (w *walk) act(t *testing.T) {
	t.Helper()
	id := w.id()
	switch k := w.under(16); {
	case k < 6:
		write := k < 2
		got, err := w.r.Begin(write)
		want, no := w.b.begin(write)
		w.agree(t, "Begin", err, no)
		if got != want {
			t.Fatalf("Begin(%v): %d, not %d", write, got, want)
		}
	case k < 9:
		if w.under(3) > 0 && w.r.Writer() != 0 {
			id = w.r.Writer()
		}
		u := w.tree(t)
		w.agree(t, "Set", w.r.Set(id, u), w.b.set(id, u))
	case k < 11:
		u := w.tree(t)
		w.agree(t, "Change", w.r.Change(u), w.b.s.Commit(u, w.b.held(true)))
	case k < 14:
		w.agree(t, "Commit", w.r.Commit(id), w.b.end(id, true))
		w.ended = append(w.ended, id)
	default:
		w.agree(t, "Abort", w.r.Abort(id), w.b.end(id, false))
		w.ended = append(w.ended, id)
	}
}

// look fails, unless the room is as the book tells.
func (w *walk) look(t *testing.T) {
	t.Helper()
	p := w.b.pins()
	reads(t, "a walk", w.r, p.Next, p.L...)
	holds(t, "a walk", w.r, w.b.held(true))
	writer := uint64(0)
	for _, x := range w.b.l {
		sees(t, "a walk", w.r, x.id, tree.All(x.tree))
		if x.write {
			writer = x.id
		} else {
			sees(t, "a walk", w.r, x.id, x.list)
		}
	}
	writes(t, "a walk", w.r, writer)
	for _, id := range append(w.ended, 0, w.b.next+1) {
		if w.b.of(id) == nil {
			none(t, "a walk", w.r, id, api.ErrNone)
		}
	}
	s := w.both()
	if s[0].Seq() != s[1].Seq() || s[0].Used() != s[1].Used() || !slices.Equal(tree.All(s[0].Tree()), tree.All(s[1].Tree())) {
		t.Fatalf("the commit %d lasts, not %d", s[0].Seq(), s[1].Seq())
	}
}

// safe fails, unless on the device what anybody saw as it began lies where it lay, and all else is noughts.
func (w *walk) safe(t *testing.T) {
	t.Helper()
	for _, x := range w.b.l {
		var used bitset.Set
		for _, page := range x.pages {
			used = bitset.With(used, page)
		}
		w.lies(t, "a walk", x.began, x.list, used)
	}
	w.clean(t, "a walk", w.b.held(true))
}

// crash lets both devices go down somewhere in the next acts, and come back; both rooms are opened anew then.
func (w *walk) crash(t *testing.T) {
	t.Helper()
	n := w.under(60)
	w.d.Arm(n)
	w.b.d.Arm(n)
	for range 6 {
		w.act(t)
		w.look(t)
	}
	if w.d.Down() {
		w.many["down"]++
	}
	keep := w.bits(len(w.d.Waiting()))
	w.d.Crash(keep)
	w.b.d.Crash(keep)
	w.open(t)
	s, err := space.Open(w.b.d, w.ext, tenant, gen)
	good(t, "Open", err)
	w.b = book{d: w.b.d, s: s}
	w.ended = nil
}

// TestWalk: TX1 to TX3, a room does what the chapter's words say, to the byte, on a device that now and then goes down.
func TestWalk(t *testing.T) {
	many := map[string]int{}
	for seed := range 48 {
		g := formatted(t, 9+seed%3*5)
		w := &walk{dice: dice(seed), ground: g, many: many}
		d := g.d.Copy()
		s, err := space.Open(d, g.ext, tenant, gen)
		good(t, "Open", err)
		w.b = book{d: d, s: s}
		for range 300 {
			w.act(t)
			w.look(t)
			w.safe(t)
			if w.under(20) == 0 {
				w.crash(t)
			}
			if t.Failed() {
				t.Fatalf("seed %d", seed)
			}
		}
	}
	// Else the walks would be too tame.
	for _, what := range []string{
		"Begin, error 0", "Begin, error 7", "Begin, error 10", "Set, error 0", "Set, error 1", "Set, error 6", "Change, error 0", "Change, error 8", "Change, error 9",
		"Commit, error 0", "Commit, error 6", "Commit, error 8", "Commit, error 9", "Abort, error 0", "Abort, error 6", "Abort, error 9", "down",
	} {
		if many[what] < 12 {
			t.Errorf("%s: %d times alone, of %v", what, many[what], many)
		}
	}
}
