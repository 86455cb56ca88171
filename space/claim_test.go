package space_test

import (
	"slices"
	"testing"

	"warren/api"
	"warren/bitset"
	"warren/device"
	"warren/extent"
	"warren/head"
	"warren/plan"
	"warren/space"
	"warren/tree"
)

// commits fails, unless a tree is committed, and found, wherever it says that it lies.
func commits(t *testing.T, what string, d *device.Device, ext []extent.Stretch, s *space.Space, u tree.Tree, held bitset.Set) {
	t.Helper()
	seq, l := s.Seq(), tree.All(u)
	good(t, what, s.Commit(u, held))
	lasts(t, what, d, ext, s, seq+1, l, held)
}

// TestLetGo: SE5, trees that were committed ahead, and whose pages were let go since, and trees made of these.
func TestLetGo(t *testing.T) {
	d := marked(t, 60)
	ext := stretches(30, 25, 5, 20)
	s := formatted(t, d, ext)
	var old []tree.Tree
	for i := range 6 {
		u := with(t, s.Tree(), string(rune('a'+i)), 4, 30+i%2*100)
		if i == 3 {
			u = with(t, tree.Tree{}, "z", 20, 60)
		}
		commits(t, "ahead", d, ext, s, u, bitset.Set{})
		old = append(old, s.Tree())
	}
	for _, u := range slices.Concat(old, old[:3]) {
		commits(t, "again", d, ext, s, u, bitset.Set{})
		commits(t, "with more", d, ext, s, put(t, u, "more", "x"), bitset.Set{})
		commits(t, "with less", d, ext, s, without(t, u, tree.All(u)[2].Key), bitset.Set{})
		commits(t, "in between", d, ext, s, put(t, old[0], "a\x00\x00", "y"), bitset.Set{})
	}
}

// TestHeldStill: SE3, a tree that was committed ahead, whose pages are held, or were till now, lies where it lay: nothing of it is written.
func TestHeldStill(t *testing.T) {
	first, second := with(t, tree.Tree{}, "k", 50, 60), with(t, tree.Tree{}, "l", 40, 60)
	// Beside both there is room for a change of the first one, and not for all of it.
	pages := 2 + plan.Need(first) + plan.Need(second) + 3*tree.Height(first) + 1
	for _, hold := range []bool{true, false} {
		d := made(t, 60)
		ext := stretches(0, pages)
		s := formatted(t, d, ext)
		commits(t, "ahead", d, ext, s, first, bitset.Set{})
		old, used := s.Tree(), s.Used()
		commits(t, "behind", d, ext, s, second, used)
		held := bitset.Set{}
		if hold {
			held = used
		}
		if n := free(pages, s, used); n >= plan.Need(first) {
			t.Fatalf("%d pages are free", n)
		}
		commits(t, "again", d, ext, s, put(t, old, "k\x00\x00", "x"), held)
		if more := bitset.Less(s.Used(), used); bitset.Count(more) > 3*tree.Height(old)+1 {
			t.Errorf("%v are new, of %v", bitset.All(more), bitset.All(s.Used()))
		}
	}
}

// TestElsewhere: SE5, trees that lie on pages of another space, be these there or not, free, used or held.
func TestElsewhere(t *testing.T) {
	far := marked(t, 200)
	other := formatted(t, far, stretches(0, 200))
	good(t, "Commit", other.Commit(with(t, tree.Tree{}, "f", 60, 60), bitset.Set{}))
	good(t, "Commit", other.Commit(with(t, other.Tree(), "g", 5, 700), bitset.Below(100)))
	good(t, "Commit", other.Commit(with(t, other.Tree(), "h", 5, 70), bitset.Below(150)))
	d := marked(t, 200)
	ext := stretches(90, 110)
	s := formatted(t, d, ext)
	for _, held := range []bitset.Set{{}, bitset.Below(20), bitset.Below(1024)} {
		for i, u := range []tree.Tree{other.Tree(), put(t, other.Tree(), "i", "x"), without(t, other.Tree(), "f\x00\x00"), put(t, other.Tree(), "z", "x")} {
			if held == bitset.Below(1024) {
				refused(t, "no room", d, s, u, held, api.ErrQuota)
				continue
			}
			commits(t, "elsewhere", d, ext, s, u, bitset.Set{})
			commits(t, "here", d, ext, s, put(t, s.Tree(), "own", "x"), bitset.Set{})
			if i%2 == 1 {
				commits(t, "nothing", d, ext, s, tree.Tree{}, bitset.Set{})
			}
			commits(t, "long", d, ext, s, with(t, s.Tree(), "own", 2, 600), held)
			good(t, "Release", s.Release(bitset.Set{}))
		}
	}
	// What says that it lies somewhere, and has no room as a whole, is refused.
	small := formatted(t, d, stretches(0, 6))
	refused(t, "no room", d, small, other.Tree(), bitset.Set{}, api.ErrQuota)
	refused(t, "no room", d, small, put(t, other.Tree(), "i", "x"), bitset.Set{}, api.ErrQuota)
}

// TestTwins: SE5, trees that say that they lie on pages on which another tree lies that is alike, or the same one in other places.
func TestTwins(t *testing.T) {
	ext := stretches(0, 30)
	l := with(t, tree.Tree{}, "k", 30, 60)
	l = put(t, l, "long", tree.All(with(t, tree.Tree{}, "", 1, 900))[0].Value)
	pages := plan.Need(l)
	// The same tree on the same pages, which are taken in another order.
	here, there := made(t, 30), made(t, 30)
	one := built(t, here, ext, head.Head{Tenant: tenant, Gen: gen}, l, bitset.Below(pages+2))
	half, _, err := plan.Lay(with(t, tree.Tree{}, "k", 15, 60), bitset.Below(pages+2))
	good(t, "Lay", err)
	two := built(t, there, ext, head.Head{Tenant: tenant, Gen: gen}, with(t, half, "k", 30, 60), bitset.Below(30))
	for _, u := range []tree.Tree{one, two, half, put(t, two, "k\x00\x03", "x"), put(t, one, "k\x00\x03", "x"), put(t, half, "a", "x"), without(t, two, "k\x00\x1d")} {
		for _, from := range []*device.Device{here, there} {
			d := from.Copy()
			s, err := space.Open(d, ext, tenant, gen)
			if from == there {
				// Some of its pages were never written.
				wrong(t, "Open", err, api.ErrCorrupt)
				s = formatted(t, d, ext)
			} else {
				good(t, "Open", err)
			}
			commits(t, "a twin", d, ext, s, u, bitset.Set{})
			for i, e := range tree.All(u) {
				if i%6 == 0 {
					commits(t, "of a twin", d, ext, s, put(t, s.Tree(), e.Key, "other"), bitset.Set{})
				}
			}
			commits(t, "a twin, again", d, ext, s, u, bitset.Set{})
		}
	}
}

// TestRoots: SE5, a tree that says that it lies below a page on which the root of one with the same entries lies, whose other pages are others.
func TestRoots(t *testing.T) {
	u := with(t, tree.Tree{}, "k", 30, 60)
	u = with(t, u, "l", 2, 600)
	low, high := bitset.Below(plan.Need(u)+1), bitset.Less(bitset.Below(plan.Need(u)+41), bitset.Below(42))
	for _, on := range [][2]bitset.Set{{low, high}, {high, low}} {
		d := made(t, 80)
		ext := stretches(0, 80)
		built(t, d, ext, head.Head{Tenant: tenant, Gen: gen}, u, bitset.With(on[0], 79))
		said, _, err := plan.Lay(u, bitset.With(on[1], 79))
		good(t, "Lay", err)
		s := opened(t, d, ext)
		if plan.Root(said) != 79 || plan.Root(s.Tree()) != 79 || said == s.Tree() {
			t.Fatalf("the roots lie at %d, and at %d", plan.Root(said), plan.Root(s.Tree()))
		}
		commits(t, "the same root", d, ext, s, said, bitset.Set{})
		commits(t, "more", d, ext, s, put(t, said, "k\x00\x00", "x"), bitset.Set{})
		commits(t, "less", d, ext, s, without(t, said, "l\x00\x00"), bitset.Set{})
	}
}
