package txn_test

import (
	"bytes"
	"math"
	"slices"
	"testing"

	"warren/api"
	"warren/bitset"
	"warren/pins"
	"warren/space"
	"warren/tree"
	"warren/txn"
)

// TestExample: a second writer: busy.
func TestExample(t *testing.T) {
	r := formatted(t, 20).r
	begin(t, r, true, 1)
	refused(t, r, true, api.ErrBusy)
}

// TestNil: a nil room has nothing, and is down, whatever is asked of it.
func TestNil(t *testing.T) {
	var r *txn.Room
	for range 2 {
		refused(t, r, true, api.ErrDown)
		refused(t, r, false, api.ErrDown)
		for _, id := range []uint64{0, 1, 2, 1 << 62, math.MaxUint64} {
			none(t, "nil", r, id, api.ErrDown)
		}
		wrong(t, "Change", r.Change(tree.Tree{}), api.ErrDown)
		wrong(t, "Change", r.Change(with(t, tree.Tree{}, "a", 3, 9)), api.ErrDown)
		holds(t, "nil", r)
		reads(t, "nil", r, 0)
		writes(t, "nil", r, 0)
		if r.Space() != nil {
			t.Error("a space of a nil room")
		}
	}
}

// TestNoSpace: TX1, a room over no space, or one that nobody opened, has transactions, that see nothing, and none of which lasts.
func TestNoSpace(t *testing.T) {
	for _, r := range []*txn.Room{txn.Open(nil), {}} {
		if r == nil || r.Space() != nil {
			t.Fatalf("%v, %v", r, r.Space())
		}
		none(t, "no space", r, 0, api.ErrNone)
		begin(t, r, false, 1)
		begin(t, r, true, 2)
		sees(t, "no space", r, 1, nil)
		sees(t, "no space", r, 2, nil)
		u := with(t, tree.Tree{}, "a", 3, 9)
		good(t, "Set", r.Set(2, u))
		wrong(t, "Change", r.Change(u), api.ErrDown)
		wrong(t, "Commit", r.Commit(2), api.ErrDown)
		sees(t, "no space", r, 2, tree.All(u))
		reads(t, "no space", r, 2, pins.Pin{ID: 1})
		wrong(t, "Commit", r.Commit(1), api.ErrDown)
		wrong(t, "Abort", r.Abort(2), api.ErrDown)
		reads(t, "no space", r, 2)
		writes(t, "no space", r, 0)
	}
}

// TestOpen: TX1, a room is without any transaction, over the space that was handed in, whatever lies there, and whatever other rooms have.
func TestOpen(t *testing.T) {
	g := formatted(t, 30)
	for i := range 3 {
		var r *txn.Room
		g.idle(t, "Open", func() { r = txn.Open(g.s) })
		if r.Space() != g.s {
			t.Fatal("it is over another space")
		}
		for id := range uint64(10) {
			none(t, "opened", r, id, api.ErrNone)
		}
		holds(t, "opened", r)
		reads(t, "opened", r, 0)
		writes(t, "opened", r, 0)
		begin(t, r, i%2 == 0, 1)
		good(t, "Change", r.Change(with(t, g.s.Tree(), string(rune('a'+i)), 9, 60)))
		if r.Space() != g.s {
			t.Fatal("it is over another space")
		}
		good(t, "Abort", r.Abort(1))
	}
}

// TestBegin: TX1, numbers come from one row, and from 1 on; none is used up by what has an error, none comes twice.
func TestBegin(t *testing.T) {
	g := formatted(t, 40)
	good(t, "Change", g.r.Change(with(t, tree.Tree{}, "a", 5, 50)))
	var l []pins.Pin
	reader := func(id uint64) {
		t.Helper()
		begin(t, g.r, false, id)
		l = append(l, pins.Pin{ID: id, Seq: g.s.Seq(), Pages: g.s.Used()})
		reads(t, "begun", g.r, id, l...)
	}
	g.idle(t, "Begin", func() {
		reader(1)
		begin(t, g.r, true, 2)
		reads(t, "a writer", g.r, 2, l...)
		reader(3)
		refused(t, g.r, true, api.ErrBusy)
		reads(t, "busy", g.r, 3, l...)
		writes(t, "busy", g.r, 2)
		for id := uint64(4); id < 10; id++ {
			reader(id)
		}
		for range 3 {
			refused(t, g.r, false, api.ErrFull)
			refused(t, g.r, true, api.ErrBusy)
			reads(t, "full", g.r, 9, l...)
		}
		good(t, "Abort", g.r.Abort(2))
		// That there are eight readers is nothing to a writer.
		refused(t, g.r, false, api.ErrFull)
		begin(t, g.r, true, 10)
		reads(t, "a writer", g.r, 10, l...)
		good(t, "Abort", g.r.Abort(5))
		l = slices.Delete(l, 3, 4)
		reader(11)
		refused(t, g.r, false, api.ErrFull)
		good(t, "Commit", g.r.Commit(11))
		good(t, "Commit", g.r.Commit(9))
		l = l[:6]
		reader(12)
		good(t, "Abort", g.r.Abort(10))
		begin(t, g.r, true, 13)
		reads(t, "a writer", g.r, 13, l...)
		writes(t, "a writer", g.r, 13)
	})
}

// TestNone: TX1, of a number that no transaction has, or none has any more, nothing is done.
func TestNone(t *testing.T) {
	g := formatted(t, 40)
	r := g.r
	good(t, "Change", r.Change(with(t, tree.Tree{}, "a", 9, 50)))
	l := tree.All(g.s.Tree())
	check := func(what string, there ...uint64) {
		t.Helper()
		held, readers, writer := r.Held(), r.Readers(), r.Writer()
		g.idle(t, what, func() {
			for _, id := range []uint64{0, 1, 2, 3, 4, 5, 6, 7, 1 << 32, 1 << 62, 1<<62 + 1, 1 << 63, math.MaxUint64} {
				if !slices.Contains(there, id) {
					none(t, what, r, id, api.ErrNone)
				}
			}
		})
		holds(t, what, r, held)
		reads(t, what, r, readers.Next, readers.L...)
		writes(t, what, r, writer)
		for _, id := range there {
			sees(t, what, r, id, l)
		}
		g.lasts(t, what, 1, l)
	}
	check("nobody")
	begin(t, r, true, 1)
	check("a writer", 1)
	begin(t, r, false, 2)
	begin(t, r, false, 3)
	check("and readers", 1, 2, 3)
	good(t, "Abort", r.Abort(1))
	check("readers", 2, 3)
	good(t, "Commit", r.Commit(2))
	check("a reader", 3)
	begin(t, r, true, 4)
	good(t, "Abort", r.Abort(3))
	check("a later writer", 4)
	good(t, "Abort", r.Abort(4))
	check("nobody any more")
	// What is down has ErrNone too, where nothing of the device is asked.
	begin(t, r, false, 5)
	g.down(t)
	none(t, "down", r, 4, api.ErrNone)
	wrong(t, "down", r.Set(5, tree.Tree{}), api.ErrArg)
	sees(t, "down", r, 5, l)
	begin(t, r, true, 6)
	sees(t, "down", r, 6, l)
	refused(t, r, true, api.ErrBusy)
}

// TestSet: TX1, a writer sees what it set last, and nobody else does; of a reader it is wrong.
func TestSet(t *testing.T) {
	g := formatted(t, 40)
	r := g.r
	first := with(t, tree.Tree{}, "a", 9, 50)
	good(t, "Change", r.Change(first))
	l := tree.All(first)
	begin(t, r, false, 1)
	begin(t, r, true, 2)
	begin(t, r, false, 3)
	sees(t, "begun", r, 2, l)
	g.idle(t, "Set", func() {
		was := r.Held()
		more, err := r.Tree(2)
		good(t, "Tree", err)
		for i, u := range []tree.Tree{first, with(t, more, "b", 3, 5), {}, with(t, tree.Tree{}, "c", 200, 9), with(t, more, "d", 3, 2048), g.s.Tree()} {
			good(t, "Set", r.Set(2, u))
			sees(t, "set", r, 2, tree.All(u))
			for _, id := range []uint64{1, 3} {
				wrong(t, "Set", r.Set(id, u), api.ErrArg)
				sees(t, "not set", r, id, l)
			}
			if i == 3 {
				begin(t, r, false, 4)
				sees(t, "begun behind", r, 4, l)
			}
			holds(t, "set", r, was)
			writes(t, "set", r, 2)
		}
	})
	good(t, "Abort", r.Abort(2))
	for _, id := range []uint64{1, 3, 4} {
		wrong(t, "Set, without a writer", r.Set(id, tree.Tree{}), api.ErrArg)
		sees(t, "without a writer", r, id, l)
	}
	begin(t, r, true, 5)
	sees(t, "begun anew", r, 5, l)
	g.lasts(t, "never committed", 1, l)
}

// TestReaders: TX1, each reader has the commit that lasted as it began, and its pages; what is answered is nobody else's.
func TestReaders(t *testing.T) {
	g := formatted(t, 60)
	r := g.r
	var want []pins.Pin
	for id := uint64(1); id <= 8; id++ {
		begin(t, r, false, id)
		want = append(want, pins.Pin{ID: id, Seq: g.s.Seq(), Pages: g.s.Used()})
		good(t, "Change", r.Change(with(t, g.s.Tree(), string(rune('a'+id)), 3, 60)))
		spoilt := r.Readers()
		for i := range spoilt.L[:cap(spoilt.L)] {
			spoilt.L[:cap(spoilt.L)][i] = pins.Pin{ID: 77, Seq: 77, Pages: bitset.Below(1024)}
		}
		reads(t, "spoilt", r, id, want...)
		for _, pin := range want[1:] {
			if pin.Pages == (bitset.Set{}) {
				t.Fatalf("reader %d holds nothing", pin.ID)
			}
		}
	}
	held := r.Readers()
	good(t, "Abort", r.Abort(3))
	if !slices.Equal(held.L, want) {
		t.Fatal("what was answered is another one")
	}
	reads(t, "ended", r, 8, slices.Delete(want, 2, 3)...)
}

// three is a room with a reader of the first tree, a writer that began with the second, a reader of the third, and the fourth that lasts:
// none has a page of another one; and what each of them holds.
func three(t *testing.T) (*ground, [4]bitset.Set) {
	t.Helper()
	g := formatted(t, 60)
	var used [4]bitset.Set
	for i := range used {
		good(t, "Change", g.r.Change(with(t, tree.Tree{}, string(rune('a'+i)), 20+i, 50)))
		used[i] = g.s.Used()
		if i < 3 {
			begin(t, g.r, i == 1, uint64(i+1))
		}
	}
	for i, a := range used {
		for _, b := range used[i+1:] {
			if a == (bitset.Set{}) || bitset.Both(a, b) != (bitset.Set{}) {
				t.Fatalf("%v and %v", bitset.All(a), bitset.All(b))
			}
		}
	}
	return g, used
}

// TestHeld: TX1, TX2, what anybody holds stays where it is, till the last one of those ends that hold it, however they end.
func TestHeld(t *testing.T) {
	for _, order := range [][]uint64{{1, 2, 3}, {1, 3, 2}, {2, 1, 3}, {2, 3, 1}, {3, 1, 2}, {3, 2, 1}} {
		for _, commit := range []bool{false, true} {
			g, used := three(t)
			was := g.pages(t)
			lasting := used[3]
			for i, id := range order {
				var left []bitset.Set
				for _, other := range order[i:] {
					left = append(left, used[other-1])
				}
				holds(t, "held", g.r, left...)
				g.clean(t, "held", g.r.Held())
				if commit && id != 2 {
					good(t, "Commit", g.r.Commit(id))
				} else {
					good(t, "Abort", g.r.Abort(id))
				}
				holds(t, "let go", g.r, left[1:]...)
				g.clean(t, "let go", g.r.Held())
				for _, n := range bitset.All(bitset.Either(g.r.Held(), lasting)) {
					if !bytes.Equal(g.pages(t)[n], was[n]) {
						t.Fatalf("page %d, which is held, is another one", n)
					}
				}
				none(t, "ended", g.r, id, api.ErrNone)
			}
			if g.s.Seq() != 4 || g.s.Used() != lasting {
				t.Fatalf("the commit %d lasts, on %v", g.s.Seq(), bitset.All(g.s.Used()))
			}
		}
	}
}

// TestHeldByTwo: TX1, TX2, pages that two hold are held till both are ended, be one of them the writer or not.
func TestHeldByTwo(t *testing.T) {
	for _, write := range []bool{false, true} {
		for _, first := range []uint64{1, 2} {
			g := formatted(t, 40)
			u := with(t, tree.Tree{}, "a", 20, 50)
			good(t, "Change", g.r.Change(u))
			used := g.s.Used()
			begin(t, g.r, false, 1)
			begin(t, g.r, write, 2)
			good(t, "Change", g.r.Change(with(t, tree.Tree{}, "b", 20, 50)))
			good(t, "Abort", g.r.Abort(first))
			holds(t, "one", g.r, used)
			g.clean(t, "one", used)
			left, err := g.r.Tree(3 - first)
			good(t, "Tree", err)
			g.lies(t, "one", left, tree.All(u), used)
			good(t, "Abort", g.r.Abort(3-first))
			holds(t, "none", g.r)
			g.clean(t, "none", bitset.Set{})
		}
	}
}

// TestChange: TX1, another tree lasts, beside what transactions see; where there is no room, for what they hold, nothing changes.
func TestChange(t *testing.T) {
	g := formatted(t, 14)
	r := g.r
	var lists [][]api.Entry
	var used []bitset.Set
	for i := range 3 {
		u := with(t, tree.Tree{}, string(rune('a'+i)), 18, 50)
		good(t, "Change", r.Change(u))
		lists, used = append(lists, tree.All(u)), append(used, g.s.Used())
		g.lasts(t, "changed", uint64(i+1), lists[i])
		if i == 0 {
			begin(t, r, false, 1)
		}
		if i == 1 {
			begin(t, r, true, 2)
		}
		for id := uint64(1); id < min(3, uint64(i+2)); id++ {
			sees(t, "changed", r, id, lists[id-1])
			seen, _ := r.Tree(id)
			g.lies(t, "changed", seen, lists[id-1], used[id-1])
		}
	}
	fourth := with(t, tree.Tree{}, "d", 18, 50)
	g.idle(t, "no room", func() { wrong(t, "no room", r.Change(fourth), api.ErrQuota) })
	holds(t, "no room", r, used[0], used[1])
	g.lasts(t, "no room", 3, lists[2])
	good(t, "Set", r.Set(2, with(t, tree.Tree{}, "e", 1, 1)))
	good(t, "Abort", r.Abort(1))
	good(t, "Change", r.Change(fourth))
	g.lasts(t, "room", 4, tree.All(fourth))
	sees(t, "room", r, 2, tree.All(with(t, tree.Tree{}, "e", 1, 1)))
	writes(t, "room", r, 2)
	holds(t, "room", r, used[1])
	g.clean(t, "room", used[1])
	good(t, "Change", r.Change(g.s.Tree()))
	g.lasts(t, "the same", 5, tree.All(fourth))
	good(t, "Change", r.Change(tree.Tree{}))
	g.lasts(t, "nothing", 6, nil)
	g.clean(t, "nothing", used[1])
	g.down(t)
	wrong(t, "down", r.Change(fourth), api.ErrDown)
	writes(t, "down", r, 2)
}

// TestApart: rule 4, rooms over two spaces of one device do not tell of one another.
func TestApart(t *testing.T) {
	g := formatted(t, 30)
	all := g.ext
	other := &ground{d: g.d, ext: all[1:]}
	g.ext = all[:1]
	for _, h := range []*ground{g, other} {
		good(t, "Format", space.Format(h.d, h.ext, tenant, gen))
		h.open(t)
	}
	begin(t, g.r, true, 1)
	begin(t, g.r, false, 2)
	begin(t, other.r, false, 1)
	begin(t, other.r, true, 2)
	u, v := with(t, tree.Tree{}, "a", 9, 30), with(t, tree.Tree{}, "b", 20, 50)
	good(t, "Set", g.r.Set(1, u))
	good(t, "Commit", g.r.Commit(1))
	sees(t, "another space", other.r, 2, nil)
	holds(t, "another space", other.r)
	good(t, "Change", other.r.Change(v))
	g.lasts(t, "one", 1, tree.All(u))
	other.lasts(t, "another space", 1, tree.All(v))
	reads(t, "one", g.r, 2, pins.Pin{ID: 2})
	reads(t, "another space", other.r, 2, pins.Pin{ID: 1})
	writes(t, "one", g.r, 0)
	writes(t, "another space", other.r, 2)
}
