package txn_test

import (
	"bytes"
	"errors"
	"slices"
	"strings"
	"testing"

	"warren/api"
	"warren/bitset"
	"warren/device"
	"warren/extent"
	"warren/load"
	"warren/pins"
	"warren/plan"
	"warren/space"
	"warren/tree"
	"warren/txn"
)

const (
	tenant = 9
	gen    = 300
)

// wrong fails, unless an error's number is the one that is asked for.
func wrong(t *testing.T, what string, err error, want api.Errno) {
	t.Helper()
	var no api.Errno
	if !errors.As(err, &no) || no != want {
		t.Errorf("%s: %v, not %d", what, err, int(want))
	}
}

// good ends the test, if there is an error.
func good(t *testing.T, what string, err error) {
	t.Helper()
	if err != nil {
		t.Fatalf("%s: %v", what, err)
	}
}

// ground is a device with a space on it, and a room over that.
type ground struct {
	d   *device.Device
	ext []extent.Stretch
	s   *space.Space
	r   *txn.Room
}

// formatted is a new one, of so many pages, in two stretches.
func formatted(t *testing.T, pages int) *ground {
	t.Helper()
	d, err := device.New(pages + 9)
	good(t, "New", err)
	g := &ground{d: d, ext: []extent.Stretch{{From: pages - 1, Many: 7}, {From: 2, Many: pages - 7}}}
	good(t, "Format", space.Format(d, g.ext, tenant, gen))
	g.open(t)
	return g
}

// open opens its space, and a room, anew.
func (g *ground) open(t *testing.T) {
	t.Helper()
	s, err := space.Open(g.d, g.ext, tenant, gen)
	good(t, "Open", err)
	g.s, g.r = s, txn.Open(s)
}

// pages are those of the space, by their numbers, as what was written last.
func (g *ground) pages(t *testing.T) [][]byte {
	t.Helper()
	var l [][]byte
	for n := range g.s.Pages() {
		at, err := extent.Page(g.ext, n)
		good(t, "Page", err)
		b, err := g.d.ReadPage(at)
		good(t, "ReadPage", err)
		l = append(l, b)
	}
	return l
}

// idle fails, unless what is done has no step, and nothing waits behind it.
func (g *ground) idle(t *testing.T, what string, do func()) {
	t.Helper()
	was := g.pages(t)
	g.d.Arm(0)
	do()
	if g.d.Down() {
		t.Fatalf("%s: it had a step", what)
	}
	g.d.Arm(-1)
	if !slices.EqualFunc(g.pages(t), was, bytes.Equal) || len(g.d.Waiting()) != 0 {
		t.Fatalf("%s: the device is another one, and %v wait", what, g.d.Waiting())
	}
}

// down lets the device go down at a step that is nobody's.
func (g *ground) down(t *testing.T) {
	t.Helper()
	g.d.Arm(0)
	wrong(t, "Sync", g.d.Sync(), api.ErrDown)
}

// clean fails, unless all pages but those of the heads are noughts that are neither used nor among others.
func (g *ground) clean(t *testing.T, what string, others bitset.Set) {
	t.Helper()
	lasts := bitset.Either(g.s.Used(), others)
	for n, b := range g.pages(t) {
		if n > 1 && bitset.Has(lasts, n) == (len(bytes.Trim(b, "\x00")) == 0) {
			t.Fatalf("%s: page %d has noughts %v, while %v are used, and %v held", what, n, !bitset.Has(lasts, n), bitset.All(g.s.Used()), bitset.All(others))
		}
	}
	if w := g.d.Waiting(); len(w) != 0 {
		t.Fatalf("%s: %v wait", what, w)
	}
}

// lies fails, unless a tree with those entries lies where it says, on those pages.
func (g *ground) lies(t *testing.T, what string, u tree.Tree, l []api.Entry, pages bitset.Set) {
	t.Helper()
	found, err := load.Load(g.pages(t), plan.Root(u), tree.Len(u))
	if err != nil || !slices.Equal(tree.All(found), l) || plan.Used(found) != pages {
		t.Fatalf("%s: there lie %d entries, not %d, on %v, not %v, %v",
			what, tree.Len(found), len(l), bitset.All(plan.Used(found)), bitset.All(pages), err)
	}
}

// lasts fails, unless that commit lasts, with those entries: so it is found, too, if it is opened anew, on a copy.
func (g *ground) lasts(t *testing.T, what string, seq uint64, l []api.Entry) {
	t.Helper()
	anew := &ground{d: g.d.Copy(), ext: g.ext}
	anew.open(t)
	for _, s := range []*space.Space{g.s, anew.s} {
		if s.Seq() != seq || !slices.Equal(tree.All(s.Tree()), l) {
			t.Fatalf("%s: the commit %d of %d entries lasts, not %d of %d", what, s.Seq(), tree.Len(s.Tree()), seq, len(l))
		}
	}
}

// begin begins a transaction, by its number.
func begin(t *testing.T, r *txn.Room, write bool, want uint64) uint64 {
	t.Helper()
	id, err := r.Begin(write)
	if id != want || err != nil {
		t.Fatalf("Begin(%v): %d, %v, not %d", write, id, err, want)
	}
	return id
}

// refused fails, unless none begins.
func refused(t *testing.T, r *txn.Room, write bool, want api.Errno) {
	t.Helper()
	id, err := r.Begin(write)
	wrong(t, "Begin", err, want)
	if id != 0 {
		t.Errorf("Begin(%v): %d, beside an error", write, id)
	}
}

// sees fails, unless a transaction sees those entries.
func sees(t *testing.T, what string, r *txn.Room, id uint64, l []api.Entry) {
	t.Helper()
	u, err := r.Tree(id)
	if err != nil || !slices.Equal(tree.All(u), l) {
		t.Fatalf("%s: transaction %d sees %d entries, not %d, %v", what, id, tree.Len(u), len(l), err)
	}
}

// none fails, unless there is no transaction of a number, whatever is asked of it.
func none(t *testing.T, what string, r *txn.Room, id uint64, want api.Errno) {
	t.Helper()
	u, err := r.Tree(id)
	wrong(t, what+", Tree", err, want)
	if tree.Len(u) != 0 {
		t.Errorf("%s: a tree of %d entries, beside an error", what, tree.Len(u))
	}
	wrong(t, what+", Set", r.Set(id, tree.Tree{}), want)
	wrong(t, what+", Set", r.Set(id, with(t, tree.Tree{}, "s", 3, 9)), want)
	wrong(t, what+", Commit", r.Commit(id), want)
	wrong(t, what+", Abort", r.Abort(id), want)
}

// reads fails, unless those are the readers, and that number was given last.
func reads(t *testing.T, what string, r *txn.Room, next uint64, l ...pins.Pin) {
	t.Helper()
	if p := r.Readers(); p.Next != next || !slices.Equal(p.L, l) {
		t.Fatalf("%s: readers %v, not %v up to %d", what, p, l, next)
	}
}

// writes fails, unless that one writes.
func writes(t *testing.T, what string, r *txn.Room, id uint64) {
	t.Helper()
	if r.Writer() != id {
		t.Fatalf("%s: %d writes, not %d", what, r.Writer(), id)
	}
}

// holds fails, unless just those pages are held.
func holds(t *testing.T, what string, r *txn.Room, all ...bitset.Set) {
	t.Helper()
	var held bitset.Set
	for _, s := range all {
		held = bitset.Either(held, s)
	}
	if r.Held() != held {
		t.Fatalf("%s: %v are held, not %v", what, bitset.All(r.Held()), bitset.All(held))
	}
}

// with is a tree with so many entries more, whose keys begin with a letter, and whose values have so many bytes.
func with(t *testing.T, u tree.Tree, letter string, many, value int) tree.Tree {
	t.Helper()
	for i := range many {
		v, err := tree.Put(u, letter+string([]byte{byte(i >> 8), byte(i)}), strings.Repeat(string(rune('a'+i%26)), value))
		good(t, "Put", err)
		u = v
	}
	return u
}

// dice are numbers that look thrown.
type dice uint32

// under is the next number, from 0 to below a bound.
func (d *dice) under(bound int) int {
	*d = *d*1664525 + 1013904223
	return int(uint32(*d)>>8) % bound
}

// bits are so many, thrown.
func (d *dice) bits(many int) []bool {
	l := make([]bool, many)
	for i := range l {
		l[i] = d.under(2) == 1
	}
	return l
}
