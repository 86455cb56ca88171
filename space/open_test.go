package space_test

import (
	"bytes"
	"slices"
	"testing"

	"warren/api"
	"warren/bitset"
	"warren/device"
	"warren/extent"
	"warren/head"
	"warren/plan"
	"warren/space"
	"warren/tree"
)

// built lays a tree on pages of a space, and a head of it at its page, whatever lies there.
func built(t *testing.T, d *device.Device, ext []extent.Stretch, h head.Head, u tree.Tree, on bitset.Set) tree.Tree {
	t.Helper()
	v, writes, err := plan.Lay(u, on)
	good(t, "Lay", err)
	at := places(ext)
	for _, w := range writes {
		write(t, d, at[w.Page], w.Bytes)
	}
	h.Root, h.Entries = plan.Root(v), tree.Len(v)
	write(t, d, at[h.Seq%2], told(h))
	return v
}

// TestOpen: SE2, what lies there, of the head with the greater Seq, at each edge of the numbers of a head.
func TestOpen(t *testing.T) {
	a, b := with(t, tree.Tree{}, "a", 3, 70), with(t, tree.Tree{}, "b", 40, 20)
	for _, seqs := range [][2]uint64{{0, 1}, {2, 1}, {0, 7}, {last, last - 1}, {last - 2, last - 1}} {
		for _, n := range [][2]uint64{{tenant, gen}, {0, 0}, {last, last}} {
			d := made(t, 60)
			ext := stretches(30, 5, 2, 20)
			even := built(t, d, ext, head.Head{Seq: seqs[0], Tenant: n[0], Gen: n[1]}, a, set(2, 5, 6, 7, 24))
			odd := built(t, d, ext, head.Head{Seq: seqs[1], Tenant: n[0], Gen: n[1]}, b, set(8, 9, 10, 11, 20, 21))
			was := pagesOf(t, d)
			handed := slices.Clone(ext)
			s, err := space.Open(d, handed, n[0], n[1])
			good(t, "Open", err)
			want := even
			if seqs[1] > seqs[0] {
				want = odd
			}
			isSpace(t, "opened", s, max(seqs[0], seqs[1]), tree.All(want), 25)
			if s.Used() != plan.Used(want) {
				t.Errorf("%v are used, not %v", bitset.All(s.Used()), bitset.All(plan.Used(want)))
			}
			outside(t, "Open", d, ext, was)
			if !slices.Equal(handed, ext) {
				t.Error("what was handed in is changed")
			}
			// Both heads stay, and so does the tree that lasts; all else is noughts.
			for at, b := range numbered(pagesOf(t, d), ext) {
				stays := at < 2 || bitset.Has(s.Used(), at)
				if stays && !bytes.Equal(b, numbered(was, ext)[at]) || !stays && !isNoughts(b) {
					t.Errorf("page %d, used: %t, is %x", at, stays, b)
				}
			}
		}
	}
}

// TestOpenDirty: SE2, each byte of each page that is not used is noughts then, and safe; what is used, and the heads' pages, stay.
func TestOpenDirty(t *testing.T) {
	d := marked(t, 40)
	s := formatted(t, d, eight)
	good(t, "Commit", s.Commit(with(t, s.Tree(), "k", 20, 40), bitset.Set{}))
	l, used := tree.All(s.Tree()), s.Used()
	was := pagesOf(t, d)
	at := places(eight)
	for n := range at {
		for _, i := range []int{0, 63, 64, 300, 507, 511} {
			if n < 2 || bitset.Has(used, n) {
				continue
			}
			b := make([]byte, 512)
			b[i] = 128
			c := d.Copy()
			write(t, c, at[n], b)
			many := steps(t, "Open", c, func(e *device.Device) error {
				_, err := space.Open(e, eight, tenant, gen)
				return err
			}, func(int, *device.Device) {})
			if many != 2 {
				t.Errorf("a sector of page %d is wiped in %d steps, not in 2", n, many)
			}
			isSpace(t, "opened", opened(t, c, eight), 1, l, len(at))
			same(t, "opened", c, was)
		}
	}
	// The page of the other head may have anything.
	write(t, d, at[0], bytes.Repeat([]byte{7}, 512))
	was = pagesOf(t, d)
	d.Arm(0)
	isSpace(t, "opened", opened(t, d, eight), 1, l, len(at))
	same(t, "opened", d, was)
	if d.Down() {
		t.Error("where nothing is dirty, Open had a step")
	}
}

// TestOpenAll: SE2, all that is dirty is wiped in one go, with one sync behind it.
func TestOpenAll(t *testing.T) {
	d := marked(t, 40)
	was := pagesOf(t, d)
	u := with(t, tree.Tree{}, "k", 6, 200)
	at := places(eight)
	for n := 2; n < 13; n++ {
		write(t, d, at[n], bytes.Repeat([]byte{byte(n)}, 512))
	}
	v := built(t, d, eight, head.Head{Seq: 4, Tenant: tenant, Gen: gen}, u, set(3, 5, 6, 7, 9, 10, 11))
	many := 0
	for n, b := range numbered(pagesOf(t, d), eight) {
		if n > 1 && !bitset.Has(plan.Used(v), n) {
			many += sectors(b)
		}
	}
	got := steps(t, "Open", d, func(c *device.Device) error {
		_, err := space.Open(c, eight, tenant, gen)
		return err
	}, func(int, *device.Device) {})
	if got != many+1 {
		t.Errorf("%d sectors are wiped in %d steps", many, got)
	}
	isSpace(t, "opened", opened(t, d, eight), 4, tree.All(u), 14)
	lies(t, "opened", d, eight, 4, tree.All(u), bitset.Set{})
	outside(t, "opened", d, eight, was)
}

// TestOpenNot: SE2, what can't be opened, and which error is told first.
func TestOpenNot(t *testing.T) {
	ext := stretches(2, 10)
	u := with(t, tree.Tree{}, "k", 30, 40)
	d := made(t, 20)
	closed(t, "noughts", d, ext, tenant, gen, api.ErrCorrupt)
	closed(t, "noughts, of pages that may not be", d, nil, tenant, gen, api.ErrArg)
	h := head.Head{Seq: 6, Tenant: tenant, Gen: gen}
	v := built(t, d, ext, h, u, bitset.Below(10))
	closed(t, "another tenant", d, ext, tenant+1, gen, api.ErrState)
	closed(t, "another generation", d, ext, tenant, gen-1, api.ErrState)
	closed(t, "both of them", d, ext, gen, tenant, api.ErrState)
	closed(t, "a generation above all", d, ext, tenant+1, last+1, api.ErrArg)
	closed(t, "other pages", d, stretches(3, 10), tenant, gen, api.ErrCorrupt)
	closed(t, "fewer pages", d, stretches(2, 3), tenant, gen, api.ErrCorrupt)
	for _, page := range bitset.All(plan.Used(v)) {
		for _, i := range []int{0, 2, 3, 4, 100, 511} {
			c := d.Copy()
			b, _ := c.ReadPage(2 + page)
			b[i] ^= 16
			write(t, c, 2+page, b)
			was := pagesOf(t, c)
			closed(t, "a bit turned", c, ext, tenant, gen, api.ErrCorrupt)
			closed(t, "a bit turned, of another tenant", c, ext, tenant+1, gen, api.ErrState)
			same(t, "a bit turned", c, was)
		}
	}
	heads := []head.Head{
		{Seq: 6, Tenant: tenant, Gen: gen, Root: plan.Root(v), Entries: 29},
		{Seq: 6, Tenant: tenant, Gen: gen, Root: plan.Root(v), Entries: 31},
		{Seq: 6, Tenant: tenant, Gen: gen, Root: 9, Entries: 30},
		{Seq: 6, Tenant: tenant, Gen: gen, Root: 1023, Entries: 30},
		{Seq: 7, Tenant: tenant, Gen: gen, Root: plan.Root(v), Entries: 30},
		{Seq: last + 2, Tenant: tenant, Gen: gen, Root: plan.Root(v), Entries: 30},
		{Seq: 6, Tenant: tenant, Gen: gen, Root: 1, Entries: 30},
	}
	for _, h := range heads {
		c := d.Copy()
		write(t, c, 2, told(h))
		was := pagesOf(t, c)
		closed(t, "a head that is wrong", c, ext, tenant, gen, api.ErrCorrupt)
		same(t, "a head that is wrong", c, was)
	}
	// The greater Seq is what counts, be it another tenant's, or of a tree that is none.
	write(t, d, 3, told(head.Head{Seq: 7, Tenant: tenant + 1, Gen: gen}))
	closed(t, "a newer head of another tenant", d, ext, tenant, gen, api.ErrState)
	write(t, d, 3, told(head.Head{Seq: 7, Tenant: tenant, Gen: gen, Root: 8, Entries: 30}))
	closed(t, "a newer head of no tree", d, ext, tenant, gen, api.ErrCorrupt)
	write(t, d, 3, told(head.Head{Seq: 5, Tenant: tenant + 1, Gen: gen}))
	isSpace(t, "an older head of another tenant", opened(t, d, ext), 6, tree.All(u), 10)
}

// TestKept: rule 3, a space doesn't hang on the list that was handed in.
func TestKept(t *testing.T) {
	d := made(t, 40)
	good(t, "Format", space.Format(d, eight, tenant, gen))
	ext := append(make([]extent.Stretch, 0, 20), eight...)
	s, err := space.Open(d, ext, tenant, gen)
	good(t, "Open", err)
	clear(ext)
	good(t, "Commit", s.Commit(with(t, s.Tree(), "k", 20, 40), bitset.Set{}))
	lasts(t, "committed", d, eight, s, 1, tree.All(s.Tree()), bitset.Set{})
	ext = append(ext[:0], eight[:7]...)
	good(t, "Format", space.Format(d, ext, tenant, gen))
	s, err = space.Open(d, ext, tenant, gen)
	good(t, "Open", err)
	grown := append(ext, eight[7])
	good(t, "Grow", s.Grow(grown))
	clear(grown)
	good(t, "Commit", s.Commit(with(t, s.Tree(), "k", 20, 40), bitset.Set{}))
	lasts(t, "grown", d, eight, s, 1, tree.All(s.Tree()), bitset.Set{})
}

// TestNil: a nil space has nothing, and is down.
func TestNil(t *testing.T) {
	for _, s := range []*space.Space{nil, {}} {
		isSpace(t, "nil", s, 0, nil, 0)
		wrong(t, "Commit", s.Commit(tree.Tree{}, bitset.Set{}), api.ErrDown)
		wrong(t, "Commit", s.Commit(with(t, tree.Tree{}, "k", 3, 3), set(2, 3)), api.ErrDown)
		wrong(t, "Release", s.Release(bitset.Set{}), api.ErrDown)
		wrong(t, "Grow", s.Grow(nil), api.ErrDown)
		wrong(t, "Grow", s.Grow(eight), api.ErrDown)
	}
}

// TestDown: a space whose device went down at one of its steps is down for ever; one whose device went down elsewhere till it is up.
func TestDown(t *testing.T) {
	acts := map[string]func(*space.Space) error{
		"Commit":  func(s *space.Space) error { return s.Commit(with(t, s.Tree(), "l", 2, 9), bitset.Set{}) },
		"Release": func(s *space.Space) error { return s.Release(bitset.Set{}) },
		"Grow":    func(s *space.Space) error { return s.Grow(stretches(2, 12, 20, 4)) },
		"nothing": func(s *space.Space) error { return s.Grow(stretches(2, 12)) },
		"wrong":   func(s *space.Space) error { return s.Grow(nil) },
	}
	start := func() (*device.Device, *space.Space, []api.Entry) {
		d := marked(t, 40)
		s := formatted(t, d, stretches(2, 12))
		good(t, "Commit", s.Commit(with(t, s.Tree(), "k", 20, 9), bitset.Set{}))
		l := tree.All(s.Tree())
		// So that Release has a step.
		good(t, "Commit", s.Commit(with(t, s.Tree(), "k", 2, 5), s.Used()))
		good(t, "Commit", s.Commit(with(t, tree.Tree{}, "k", 20, 9), bitset.Either(s.Used(), set(2, 3, 4))))
		return d, s, l
	}
	for what, act := range acts {
		for first, at := range acts {
			d, s, l := start()
			d.Arm(0)
			if first == "nothing" || first == "wrong" {
				// Nothing of these is a step; the device goes down at a step of somebody else.
				wrong(t, "Sync", d.Sync(), api.ErrDown)
			}
			wrong(t, first, at(s), api.ErrDown)
			wrong(t, what+", down", act(s), api.ErrDown)
			if s.Seq() != 3 || !slices.Equal(tree.All(s.Tree()), l) || s.Used() != plan.Used(s.Tree()) {
				t.Errorf("%s, down: the commit %d", first, s.Seq())
			}
			d.Crash(nil)
			err := act(s)
			switch {
			case first != "nothing" && first != "wrong":
				wrong(t, what+", up again behind "+first, err, api.ErrDown)
			case what == "wrong":
				wrong(t, what+", up again", err, api.ErrArg)
			default:
				good(t, what+", up again", err)
			}
		}
	}
}
