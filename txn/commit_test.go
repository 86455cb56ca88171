package txn_test

import (
	"slices"
	"testing"

	"warren/api"
	"warren/bitset"
	"warren/pins"
	"warren/plan"
	"warren/tree"
)

// TestCommit: TX2, what a writer set lasts, it is ended, and what it alone held is noughts; another one may begin then, and sees that.
func TestCommit(t *testing.T) {
	g := formatted(t, 60)
	r := g.r
	l := []api.Entry(nil)
	for i := range uint64(12) {
		begin(t, r, true, i+1)
		u, err := r.Tree(i + 1)
		good(t, "Tree", err)
		sees(t, "begun", r, i+1, l)
		switch i % 4 {
		case 0:
			u = with(t, u, string(rune('a'+i)), 9, 60)
		case 1:
			u = with(t, u, "long", 1, 600+int(i))
		case 2:
			u = with(t, tree.Tree{}, string(rune('a'+i)), 30, 30)
		}
		good(t, "Set", r.Set(i+1, tree.Tree{}))
		good(t, "Set", r.Set(i+1, u))
		g.lasts(t, "set", i, l)
		l = tree.All(u)
		good(t, "Commit", r.Commit(i+1))
		g.lasts(t, "committed", i+1, l)
		g.clean(t, "committed", bitset.Set{})
		none(t, "committed", r, i+1, api.ErrNone)
		writes(t, "committed", r, 0)
		reads(t, "committed", r, i+1)
		holds(t, "committed", r)
	}
	// Without anything set, what it saw as it began lasts, as one more commit.
	begin(t, r, true, 13)
	good(t, "Commit", r.Commit(13))
	g.lasts(t, "nothing set", 13, l)
}

// TestCommitOver: TX2, of a change and a commit the later one lasts, as a whole: a writer's tree is what it set, or saw as it began.
func TestCommitOver(t *testing.T) {
	for _, set := range []bool{false, true} {
		g := formatted(t, 60)
		r := g.r
		first := with(t, tree.Tree{}, "a", 30, 50)
		good(t, "Change", r.Change(first))
		used := g.s.Used()
		begin(t, r, true, 1)
		u, err := r.Tree(1)
		good(t, "Tree", err)
		if set {
			u = with(t, u, "b", 2, 9)
			good(t, "Set", r.Set(1, u))
		}
		for i := range 3 {
			good(t, "Change", r.Change(with(t, tree.Tree{}, string(rune('c'+i)), 20, 50)))
			sees(t, "changed", r, 1, tree.All(u))
			holds(t, "changed", r, used)
		}
		good(t, "Commit", r.Commit(1))
		g.lasts(t, "committed", 5, tree.All(u))
		g.clean(t, "committed", bitset.Set{})
		// What was held till then was not laid anew.
		if kept := bitset.Both(g.s.Used(), used); bitset.Count(kept) < bitset.Count(used)-2*tree.Height(u) || !set && kept != used {
			t.Errorf("of %v %v are used", bitset.All(used), bitset.All(kept))
		}
	}
}

// TestCommitHeld: TX2, what a reader sees stays where it lies as a writer commits, and is noughts as soon as the reader ends.
func TestCommitHeld(t *testing.T) {
	for _, commit := range []bool{false, true} {
		g := formatted(t, 60)
		r := g.r
		first := with(t, tree.Tree{}, "a", 30, 50)
		good(t, "Change", r.Change(first))
		used := g.s.Used()
		begin(t, r, false, 1)
		begin(t, r, true, 2)
		second := with(t, tree.Tree{}, "b", 30, 50)
		good(t, "Set", r.Set(2, second))
		good(t, "Commit", r.Commit(2))
		g.lasts(t, "committed", 2, tree.All(second))
		holds(t, "committed", r, used)
		g.clean(t, "committed", used)
		sees(t, "committed", r, 1, tree.All(first))
		reads(t, "committed", r, 2, pins.Pin{ID: 1, Seq: 1, Pages: used})
		seen, err := r.Tree(1)
		good(t, "Tree", err)
		g.lies(t, "committed", seen, tree.All(first), used)
		begin(t, r, false, 3)
		lasting := g.s.Used()
		if commit {
			good(t, "Commit, of a reader", r.Commit(1))
		} else {
			good(t, "Abort, of a reader", r.Abort(1))
		}
		g.lasts(t, "read", 2, tree.All(second))
		g.clean(t, "read", bitset.Set{})
		none(t, "read", r, 1, api.ErrNone)
		reads(t, "read", r, 3, pins.Pin{ID: 3, Seq: 2, Pages: lasting})
		sees(t, "read", r, 3, tree.All(second))
		if g.s.Used() != lasting {
			t.Errorf("%v are used, not %v", bitset.All(g.s.Used()), bitset.All(lasting))
		}
	}
}

// TestQuota: TX2, where there is no room a writer goes on as it was, and nothing changes; there is, as soon as a reader lets go enough.
func TestQuota(t *testing.T) {
	g := formatted(t, 14)
	r := g.r
	first, second, third := with(t, tree.Tree{}, "a", 18, 50), with(t, tree.Tree{}, "b", 18, 50), with(t, tree.Tree{}, "c", 18, 50)
	good(t, "Change", r.Change(first))
	used := g.s.Used()
	begin(t, r, false, 1)
	begin(t, r, true, 2)
	good(t, "Set", r.Set(2, second))
	good(t, "Commit", r.Commit(2))
	between := g.s.Used()
	begin(t, r, true, 3)
	good(t, "Change", r.Change(with(t, tree.Tree{}, "d", 18, 50)))
	lasting := tree.All(g.s.Tree())
	good(t, "Set", r.Set(3, third))
	for range 3 {
		g.idle(t, "no room", func() { wrong(t, "no room", r.Commit(3), api.ErrQuota) })
		writes(t, "no room", r, 3)
		sees(t, "no room", r, 3, tree.All(third))
		sees(t, "no room", r, 1, tree.All(first))
		holds(t, "no room", r, used, between)
		reads(t, "no room", r, 3, pins.Pin{ID: 1, Seq: 1, Pages: used})
		refused(t, r, true, api.ErrBusy)
		g.lasts(t, "no room", 3, lasting)
	}
	// For what needs no more than what is there, there is.
	begin(t, r, false, 4)
	good(t, "Abort", r.Abort(1))
	good(t, "Commit", r.Commit(3))
	g.lasts(t, "room", 4, tree.All(third))
	writes(t, "room", r, 0)
	sees(t, "room", r, 4, lasting)
	holds(t, "room", r, r.Readers().L[0].Pages)
	g.clean(t, "room", r.Held())
}

// TestQuotaOwn: TX2, what the writer itself saw as it began is held till it has committed: with one page too few beside it there is no room.
func TestQuotaOwn(t *testing.T) {
	first, second, third := with(t, tree.Tree{}, "a", 18, 50), with(t, tree.Tree{}, "b", 18, 50), with(t, tree.Tree{}, "c", 18, 50)
	need := plan.Need(first)
	for more := range 2 {
		g := formatted(t, 2+3*need-1+more)
		good(t, "Change", g.r.Change(first))
		begin(t, g.r, true, 1)
		good(t, "Set", g.r.Set(1, third))
		good(t, "Change", g.r.Change(second))
		if more == 0 {
			g.idle(t, "no room", func() { wrong(t, "no room", g.r.Commit(1), api.ErrQuota) })
			sees(t, "no room", g.r, 1, tree.All(third))
			good(t, "Abort", g.r.Abort(1))
			g.lasts(t, "no room", 2, tree.All(second))
			g.clean(t, "no room", bitset.Set{})
			continue
		}
		good(t, "Commit", g.r.Commit(1))
		g.lasts(t, "room", 3, tree.All(third))
		g.clean(t, "room", bitset.Set{})
	}
}

// ends are ways in which a transaction ends.
type ends struct {
	what string
	id   uint64
	do   func(*ground) error // what is done
	only func(*ground) error // what of it comes ahead of its end, if anything
	list func(*ground) []api.Entry
}

// allEnds are the ways in which those of three end.
func allEnds(t *testing.T) []ends {
	fifth := with(t, tree.Tree{}, "e", 24, 50)
	stays := func(*ground) []api.Entry { return tree.All(with(t, tree.Tree{}, "d", 23, 50)) }
	return []ends{
		{"Commit, of the writer", 2, func(g *ground) error {
			good(t, "Set", g.r.Set(2, fifth))
			return g.r.Commit(2)
		}, func(g *ground) error { return g.r.Change(fifth) }, func(*ground) []api.Entry { return tree.All(fifth) }},
		{"Commit, of the same tree", 2, func(g *ground) error {
			good(t, "Set", g.r.Set(2, g.s.Tree()))
			return g.r.Commit(2)
		}, func(g *ground) error { return g.r.Change(g.s.Tree()) }, stays},
		{"Abort, of the writer", 2, func(g *ground) error { return g.r.Abort(2) }, nil, stays},
		{"Commit, of a reader", 1, func(g *ground) error { return g.r.Commit(1) }, nil, stays},
		{"Abort, of a reader", 3, func(g *ground) error { return g.r.Abort(3) }, nil, stays},
	}
}

// lastStep is with how many steps what is done goes down no more.
func lastStep(t *testing.T, do func(*ground) error) int {
	t.Helper()
	for n := 0; ; n++ {
		g, _ := three(t)
		g.d.Arm(n)
		if err := do(g); !g.d.Down() {
			good(t, "not down", err)
			return n
		}
	}
}

// TestDown: TX2, at whichever step the device goes down: a writer goes on as it was till its commit is through, and is ended from there on; all others are ended at once.
func TestDown(t *testing.T) {
	for _, end := range allEnds(t) {
		ahead := 0
		if end.only != nil {
			ahead = lastStep(t, end.only)
		}
		all := lastStep(t, end.do)
		// Else nothing could be told of one of both, or there would be nothing to let go.
		if end.only != nil && ahead < 3 || all < ahead+3 {
			t.Fatalf("%s: %d steps, %d of them ahead of its end", end.what, all, ahead)
		}
		for n := range all {
			g, used := three(t)
			g.d.Arm(n)
			wrong(t, end.what, end.do(g), api.ErrDown)
			left := []bitset.Set{used[0], used[1], used[2]}
			if n < ahead {
				writes(t, end.what, g.r, end.id)
				sees(t, end.what, g.r, end.id, end.list(g))
				wrong(t, end.what+", again", g.r.Commit(end.id), api.ErrDown)
				wrong(t, end.what+", busy", second(g.r.Begin(true)), api.ErrBusy)
				wrong(t, end.what+", ended", g.r.Abort(end.id), api.ErrDown)
			} else if g.s.Seq() != 4+uint64(min(ahead, 1)) {
				t.Fatalf("%s: down at step %d, the commit %d", end.what, n, g.s.Seq())
			}
			none(t, end.what, g.r, end.id, api.ErrNone)
			left[end.id-1] = bitset.Set{}
			holds(t, end.what, g.r, left...)
			found(t, end, g, n >= ahead)
		}
	}
}

// second is the error of a call that has another result ahead.
func second(_ uint64, err error) error { return err }

// found fails, unless behind a crash the tree ahead lasts, or the one behind: the latter, if that was answered.
func found(t *testing.T, end ends, g *ground, through bool) {
	t.Helper()
	stays := tree.All(with(t, tree.Tree{}, "d", 23, 50))
	want := end.list(g)
	for _, keep := range [][]bool{nil, slices.Repeat([]bool{true}, len(g.d.Waiting())), {true, false, true, true}} {
		anew := &ground{d: g.d.Copy(), ext: g.ext}
		anew.d.Crash(keep)
		anew.open(t)
		l := tree.All(anew.s.Tree())
		if isNew := slices.Equal(l, want); !isNew && (through || !slices.Equal(l, stays)) {
			t.Fatalf("%s: %d entries last behind a crash", end.what, len(l))
		}
		anew.clean(t, end.what, bitset.Set{})
		reads(t, end.what, anew.r, 0)
	}
}

// TestNowhere: TX3, what a writer set that is ended without a commit is nowhere: the device, the tree that lasts, and all others are as if it had not been.
func TestNowhere(t *testing.T) {
	for _, tried := range []bool{false, true} {
		g := formatted(t, 20)
		r := g.r
		l := tree.All(with(t, tree.Tree{}, "a", 30, 50))
		good(t, "Change", r.Change(with(t, tree.Tree{}, "a", 30, 50)))
		used := g.s.Used()
		begin(t, r, false, 1)
		for i := range uint64(6) {
			g.idle(t, "nowhere", func() {
				begin(t, r, true, 2*i+2)
				u, err := r.Tree(2*i + 2)
				good(t, "Tree", err)
				good(t, "Set", r.Set(2*i+2, with(t, u, "b", 9, 2000)))
				if tried {
					wrong(t, "Commit", r.Commit(2*i+2), api.ErrQuota)
				}
				good(t, "Abort", r.Abort(2*i+2))
				begin(t, r, false, 2*i+3)
				sees(t, "nowhere", r, 2*i+3, l)
				sees(t, "nowhere", r, 1, l)
				good(t, "Commit", r.Commit(2*i+3))
				writes(t, "nowhere", r, 0)
			})
			g.lasts(t, "nowhere", 1, l)
			if g.s.Used() != used {
				t.Fatalf("%v are used, not %v", bitset.All(g.s.Used()), bitset.All(used))
			}
		}
	}
}

// TestSame: TX3, a reader sees the same, and it lies where it lay, however many commits and changes come, till it ends.
func TestSame(t *testing.T) {
	g := formatted(t, 90)
	r := g.r
	first := with(t, with(t, tree.Tree{}, "a", 30, 50), "long", 2, 900)
	good(t, "Change", r.Change(first))
	used, l := g.s.Used(), tree.All(first)
	begin(t, r, false, 1)
	for i := range uint64(40) {
		u, err := tree.Put(g.s.Tree(), "a\x00"+string(rune(i%30)), "other")
		good(t, "Put", err)
		if i%7 == 0 {
			u, _ = tree.Delete(u, l[i%32].Key)
		}
		if i%3 == 0 {
			good(t, "Change", r.Change(u))
		} else {
			id, err := r.Begin(true)
			good(t, "Begin", err)
			good(t, "Set", r.Set(id, u))
			good(t, "Commit", r.Commit(id))
		}
		g.lasts(t, "another", i+2, tree.All(u))
		sees(t, "the same", r, 1, l)
		seen, _ := r.Tree(1)
		g.lies(t, "the same", seen, l, used)
		if pin := r.Readers().L[0]; pin != (pins.Pin{ID: 1, Seq: 1, Pages: used}) {
			t.Fatalf("the reader is %v", pin)
		}
	}
	good(t, "Commit", r.Commit(1))
	g.clean(t, "ended", bitset.Set{})
}
