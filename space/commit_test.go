package space_test

import (
	"bytes"
	"slices"
	"strings"
	"testing"

	"warren/api"
	"warren/bitset"
	"warren/device"
	"warren/head"
	"warren/plan"
	"warren/space"
	"warren/tree"
)

// refused fails, unless a commit has an error, beside which nothing changes, and no step is done.
func refused(t *testing.T, what string, d *device.Device, s *space.Space, u tree.Tree, held bitset.Set, want api.Errno) {
	t.Helper()
	was, seq, l, used, pages := pagesOf(t, d), s.Seq(), tree.All(s.Tree()), s.Used(), s.Pages()
	d.Arm(0)
	wrong(t, what, s.Commit(u, held), want)
	if d.Down() {
		t.Fatalf("%s: it had a step", what)
	}
	d.Arm(-1)
	same(t, what, d, was)
	isSpace(t, what, s, seq, l, pages)
	if s.Used() != used {
		t.Errorf("%s: %v are used, not %v", what, bitset.All(s.Used()), bitset.All(used))
	}
}

// TestCommit: SE3, tree after tree lasts, with heads by turns, and what only those ahead had is noughts.
func TestCommit(t *testing.T) {
	d := marked(t, 80)
	ext := stretches(50, 7, 0, 1, 60, 20, 20, 9)
	was := pagesOf(t, d)
	s := formatted(t, d, ext)
	seq := uint64(0)
	commit := func(what string, u tree.Tree) {
		t.Helper()
		l := tree.All(u)
		good(t, what, s.Commit(u, bitset.Set{}))
		seq++
		lasts(t, what, d, ext, s, seq, l, bitset.Set{})
		outside(t, what, d, ext, was)
		if !slices.Equal(tree.All(u), l) {
			t.Errorf("%s: what was handed in is changed", what)
		}
	}
	commit("nothing, again", s.Tree())
	commit("one entry", put(t, s.Tree(), "a", "x"))
	commit("another value", put(t, s.Tree(), "a", "y"))
	commit("the same", s.Tree())
	commit("a longest value", put(t, s.Tree(), strings.Repeat("b", 40), strings.Repeat("v", 2048)))
	commit("a value without bytes", put(t, s.Tree(), "c", ""))
	commit("some", with(t, s.Tree(), "d", 60, 60))
	commit("one less", without(t, s.Tree(), "a"))
	commit("no longest value", without(t, s.Tree(), strings.Repeat("b", 40)))
	commit("a tree that has nothing of this one", with(t, tree.Tree{}, "e", 70, 50))
	commit("nothing", tree.Tree{})
	commit("one entry", put(t, s.Tree(), "a", "x"))
	one := s.Used()
	commit("more", with(t, s.Tree(), "f", 30, 300))
	for tree.Len(s.Tree()) > 0 {
		commit("less", without(t, s.Tree(), tree.All(s.Tree())[tree.Len(s.Tree())/2].Key))
	}
	if bitset.Count(one) != 1 {
		t.Errorf("one entry lies on %v", bitset.All(one))
	}
}

// TestCommitShares: SE3, what is the same stays where it lies: one change takes as few pages as chapter 20 says.
func TestCommitShares(t *testing.T) {
	d := made(t, 200)
	ext := stretches(0, 200)
	s := formatted(t, d, ext)
	good(t, "Commit", s.Commit(with(t, s.Tree(), "k", 500, 60), bitset.Set{}))
	for i, e := range tree.All(s.Tree()) {
		old := s.Used()
		u := put(t, s.Tree(), e.Key, "other")
		if i%3 == 0 {
			u = without(t, s.Tree(), e.Key)
		}
		need := plan.Need(u)
		good(t, "Commit", s.Commit(u, bitset.Set{}))
		if more := bitset.Count(bitset.Less(s.Used(), old)); more != need || need > 3*tree.Height(u)+1 {
			t.Fatalf("one change took %d pages, where %d are needed, of a height of %d", more, need, tree.Height(u))
		}
	}
	lasts(t, "changed", d, ext, s, 501, tree.All(s.Tree()), bitset.Set{})
}

// changes are trees one behind the other, each made of the one that lasts.
func changes(t *testing.T) map[string]func(tree.Tree) tree.Tree {
	return map[string]func(tree.Tree) tree.Tree{
		"the same": func(u tree.Tree) tree.Tree { return u },
		"more":     func(u tree.Tree) tree.Tree { return with(t, u, "m", 9, 50) },
		"long":     func(u tree.Tree) tree.Tree { return with(t, u, "l", 2, 1500) },
		"less":     func(u tree.Tree) tree.Tree { return without(t, u, tree.All(u)[0].Key) },
		"another":  func(tree.Tree) tree.Tree { return with(t, tree.Tree{}, "o", 12, 40) },
		"nothing":  func(tree.Tree) tree.Tree { return tree.Tree{} },
	}
}

// TestCommitSteps: SE3, what is to be written is, with noughts for the head, and synced; then the head, and synced; then what is wiped, and synced, if there was any.
func TestCommitSteps(t *testing.T) {
	ext := stretches(20, 10, 3, 16)
	for what, change := range changes(t) {
		start := made(t, 40)
		s := formatted(t, start, ext)
		good(t, "Commit", s.Commit(with(t, tree.Tree{}, "k", 20, 64), bitset.Set{}))
		good(t, "Commit", s.Commit(with(t, s.Tree(), "l", 2, 600), bitset.Set{}))
		before := numbered(pagesOf(t, start), ext)
		end := start.Copy()
		s = opened(t, end, ext)
		good(t, what, s.Commit(change(s.Tree()), bitset.Set{}))
		after := numbered(pagesOf(t, end), ext)
		written, wiped := 0, 0
		for n := 2; n < len(before); n++ {
			if isNoughts(before[n]) {
				written += sectors(after[n])
			} else if isNoughts(after[n]) {
				wiped += sectors(before[n])
			} else if !bytes.Equal(before[n], after[n]) {
				t.Fatalf("%s: page %d, which was used, is another one", what, n)
			}
		}
		first := written + sectors(before[1]) + 1
		whole := first + sectors(after[1]) + 1
		n := -1
		got := steps(t, what, start, func(c *device.Device) error {
			n++
			// Where nothing is dirty, to open it is no step.
			s := opened(t, c, ext)
			err := s.Commit(change(s.Tree()), bitset.Set{})
			if lasts := n >= whole; lasts != (s.Seq() == 3) || !lasts && s.Seq() != 2 {
				t.Errorf("%s: with %d of %d steps it tells the commit %d", what, n, whole, s.Seq())
			}
			return err
		}, func(n int, c *device.Device) {
			safe := numbered(safeOf(t, c), ext)
			for at := range safe {
				ahead, behind := bytes.Equal(safe[at], before[at]), bytes.Equal(safe[at], after[at])
				switch {
				case at == 1:
					ahead, behind = n < first && ahead || n >= first && n < whole && isNoughts(safe[1]), n >= whole && behind
				case isNoughts(before[at]):
					ahead, behind = n < first && ahead, n >= first && behind
				case isNoughts(after[at]):
					behind = false
				}
				if !ahead && !behind {
					t.Errorf("%s: down at step %d, page %d is another one", what, n, at)
				}
			}
		})
		if want := whole + wiped + min(wiped, 1); got != want {
			t.Errorf("%s: a commit has %d steps, not %d", what, got, want)
		}
	}
}

// TestHeld: SE3, pages that are held are neither taken nor wiped, as long as they are; behind Release they are noughts.
func TestHeld(t *testing.T) {
	d := marked(t, 60)
	ext := stretches(30, 30, 2, 10)
	s := formatted(t, d, ext)
	var held []bitset.Set
	var trees [][]api.Entry
	var roots []int
	all := bitset.Set{}
	for i := range 4 {
		good(t, "Commit", s.Commit(with(t, s.Tree(), string(rune('a'+i)), 5, 60), all))
		held, trees, roots = append(held, s.Used()), append(trees, tree.All(s.Tree())), append(roots, plan.Root(s.Tree()))
		all = bitset.Either(all, s.Used())
		lasts(t, "held", d, ext, s, uint64(i+1), trees[i], all)
	}
	was := numbered(pagesOf(t, d), ext)
	for i := range 4 {
		all = bitset.Set{}
		for _, h := range held[i:] {
			all = bitset.Either(all, h)
		}
		good(t, "Release", s.Release(all))
		lasts(t, "released", d, ext, s, 4, trees[3], all)
		for at, b := range numbered(pagesOf(t, d), ext) {
			if (at < 2 || bitset.Has(all, at)) && !bytes.Equal(b, was[at]) {
				t.Errorf("page %d, which is held, is another one", at)
			}
		}
		for j := i; j < 4; j++ {
			pages := numbered(pagesOf(t, d), ext)
			c := d.Copy()
			write(t, c, 30, told(head.Head{Seq: 8, Tenant: tenant, Gen: gen, Root: roots[j], Entries: len(trees[j])}))
			isSpace(t, "a tree that is held", opened(t, c, ext), 8, trees[j], len(pages))
		}
	}
	good(t, "Release", s.Release(bitset.Set{}))
	lasts(t, "released", d, ext, s, 4, trees[3], bitset.Set{})
}

// TestReleaseSteps: SE3, what is noughts already, used, or held, is no step; all else is written, and synced once.
func TestReleaseSteps(t *testing.T) {
	d := made(t, 40)
	ext := stretches(0, 20)
	s := formatted(t, d, ext)
	good(t, "Commit", s.Commit(with(t, s.Tree(), "k", 30, 60), bitset.Set{}))
	old := s.Used()
	good(t, "Commit", s.Commit(with(t, tree.Tree{}, "l", 10, 60), old))
	was := pagesOf(t, d)
	for _, held := range []bitset.Set{old, bitset.Below(20), bitset.Below(1024)} {
		d.Arm(0)
		good(t, "Release", s.Release(held))
		d.Arm(-1)
		same(t, "Release", d, was)
	}
	// Of this one nothing is held but a page that is used, one that there is not, and one of the heads.
	d.Arm(1 << 20)
	some := bitset.Without(old, bitset.All(old)[1])
	good(t, "Release", s.Release(bitset.Either(some, set(0, 1023))))
	lies(t, "some", d, ext, 2, tree.All(s.Tree()), some)
	many := 0
	for _, page := range bitset.All(some) {
		many += sectors(was[page])
	}
	d.Arm(many)
	wrong(t, "Release", s.Release(bitset.Set{}), api.ErrDown)
	d.Crash(nil)
	lies(t, "nothing of it", d, ext, 2, tree.All(s.Tree()), some)
	s = opened(t, d, ext)
	good(t, "Commit", s.Commit(with(t, tree.Tree{}, "m", 10, 60), s.Used()))
	was, many = pagesOf(t, d), 0
	for n := 2; n < 20; n++ {
		if !bitset.Has(s.Used(), n) {
			many += sectors(was[n])
		}
	}
	d.Arm(many + 1)
	good(t, "Release", s.Release(bitset.Set{}))
	d.Arm(0)
	good(t, "Release, again", s.Release(bitset.Set{}))
	lies(t, "all of it", d, ext, 3, tree.All(s.Tree()), bitset.Set{})
}

// TestQuota: SE3, there is room just if as many pages are neither used nor held as are needed.
func TestQuota(t *testing.T) {
	for pages := 3; pages < 24; pages++ {
		d := marked(t, 40)
		ext := stretches(13, pages)
		s := formatted(t, d, ext)
		seq := uint64(0)
		held := bitset.Set{}
		for i := range 60 {
			u := with(t, s.Tree(), string(rune('a'+i%5)), i%9*3, 40+i%4*30)
			if i%7 == 6 {
				u = with(t, tree.Tree{}, "z", i%4*2, 50)
				held = bitset.Either(set(2, 3), set(i%pages))
			}
			if plan.Need(u) > free(pages, s, held) {
				refused(t, "no room", d, s, u, held, api.ErrQuota)
				held = bitset.Set{}
				continue
			}
			lasting := bitset.Either(s.Used(), held)
			was := numbered(pagesOf(t, d), ext)
			l := tree.All(u)
			good(t, "room", s.Commit(u, held))
			seq++
			isSpace(t, "room", s, seq, l, pages)
			lies(t, "room", d, ext, seq, l, held)
			for _, page := range bitset.All(bitset.Both(held, lasting)) {
				if page < pages && page != int(seq%2) && !bytes.Equal(numbered(pagesOf(t, d), ext)[page], was[page]) {
					t.Fatalf("page %d, which was used or held, is another one", page)
				}
			}
		}
	}
}

// TestQuotaEdges: SE3, a tree that needs all that is free, and one page less.
func TestQuotaEdges(t *testing.T) {
	for _, value := range []int{0, 64, 65, 2048} {
		u := with(t, tree.Tree{}, "k", 120, value)
		need := plan.Need(u)
		for more := -1; more < 2; more++ {
			d := marked(t, 1024)
			ext := stretches(7, need+2+more)
			s := formatted(t, d, ext)
			if more < 0 {
				refused(t, "one page too few", d, s, u, bitset.Set{}, api.ErrQuota)
				continue
			}
			held := set(2)
			if more == 0 {
				refused(t, "one page too few that are not held", d, s, u, held, api.ErrQuota)
				held = set(0, 1, need+2, 1023)
			}
			good(t, "just enough", s.Commit(u, held))
			lasts(t, "just enough", d, ext, s, 1, tree.All(u), bitset.Set{})
			// What is used is none that may be taken.
			refused(t, "all used", d, s, put(t, s.Tree(), "k\x00\x00", "other"), held, api.ErrQuota)
			good(t, "the same", s.Commit(s.Tree(), held))
			good(t, "nothing", s.Commit(tree.Tree{}, bitset.Below(1024)))
			refused(t, "all held", d, s, u, bitset.Below(1024), api.ErrQuota)
			good(t, "nothing", s.Commit(tree.Tree{}, bitset.Set{}))
			lasts(t, "nothing", d, ext, s, 4, nil, bitset.Set{})
		}
	}
}

// TestFull: SE3, a space of as many pages as may be, all but full.
func TestFull(t *testing.T) {
	d := made(t, 1024)
	ext := stretches(512, 512, 0, 512)
	s := formatted(t, d, ext)
	u := s.Tree()
	for i := 0; plan.Need(u) < 1017; i++ {
		u = put(t, u, string([]byte{'k', byte(i >> 8), byte(i)}), strings.Repeat("v", 2048))
	}
	good(t, "Commit", s.Commit(u, bitset.Set{}))
	lasts(t, "full", d, ext, s, 1, tree.All(u), bitset.Set{})
	refused(t, "too much", d, s, with(t, s.Tree(), "l", 2, 2048), bitset.Set{}, api.ErrQuota)
	good(t, "Commit", s.Commit(tree.Tree{}, bitset.Set{}))
	lasts(t, "nothing", d, ext, s, 2, nil, bitset.Set{})
}

// TestLast: SE3, behind the last commit that may be there is none; that there is no room is told ahead of that.
func TestLast(t *testing.T) {
	d := made(t, 40)
	ext := stretches(10, 8)
	built(t, d, ext, head.Head{Seq: last - 1, Tenant: tenant, Gen: gen}, with(t, tree.Tree{}, "k", 3, 9), bitset.Below(8))
	s := opened(t, d, ext)
	good(t, "Commit", s.Commit(put(t, s.Tree(), "l", "x"), bitset.Set{}))
	lasts(t, "the last one", d, ext, s, last, tree.All(s.Tree()), bitset.Set{})
	refused(t, "behind it", d, s, put(t, s.Tree(), "m", "x"), bitset.Set{}, api.ErrRange)
	refused(t, "the same behind it", d, s, s.Tree(), bitset.Set{}, api.ErrRange)
	refused(t, "nothing behind it", d, s, tree.Tree{}, bitset.Set{}, api.ErrRange)
	refused(t, "no room", d, s, with(t, s.Tree(), "m", 5, 2000), bitset.Set{}, api.ErrQuota)
	refused(t, "all held", d, s, put(t, s.Tree(), "m", "x"), bitset.Below(8), api.ErrQuota)
	good(t, "Release", s.Release(bitset.Set{}))
	good(t, "Grow", s.Grow(stretches(10, 8, 3, 5)))
	refused(t, "grown", d, s, with(t, s.Tree(), "m", 1, 2000), bitset.Set{}, api.ErrRange)
}

// TestSpaces: rule 4, two spaces of one device do not tell of one another.
func TestSpaces(t *testing.T) {
	d := made(t, 60)
	a, b := stretches(0, 10, 30, 10), stretches(10, 20, 40, 4)
	one, two := formatted(t, d, a), formatted(t, d, b)
	for i := range 20 {
		good(t, "Commit", one.Commit(with(t, tree.Tree{}, string(rune('a'+i)), i, 30), bitset.Set{}))
		lasts(t, "one", d, a, one, uint64(i+1), tree.All(one.Tree()), bitset.Set{})
		lasts(t, "two", d, b, two, uint64(i), tree.All(two.Tree()), bitset.Set{})
		good(t, "Commit", two.Commit(with(t, two.Tree(), string(rune('a'+i)), 2, 60), bitset.Set{}))
	}
	var s *space.Space
	for range 2 {
		s = opened(t, d, a)
		isSpace(t, "one", s, 20, tree.All(one.Tree()), 20)
	}
	good(t, "Wipe", space.Wipe(d, a))
	lasts(t, "two", d, b, two, 20, tree.All(two.Tree()), bitset.Set{})
}
