package plan_test

import (
	"maps"
	"slices"
	"strings"
	"testing"

	"warren/api"
	"warren/bitset"
	"warren/cut"
	"warren/keys"
	"warren/plan"
	"warren/tree"
)

// dice throws numbers that are the same each time.
type dice uint32

// under is one below n.
func (d *dice) under(n int) int {
	*d = *d*1664525 + 1013904223
	return int(*d>>8) % n
}

// text is one of from least to most bytes.
func (d *dice) text(least, most int) string {
	b := make([]byte, least+d.under(most-least+1))
	for i := range b {
		b[i] = byte(d.under(256))
	}
	return string(b)
}

// kind is what a walk's entries are like: the sizes of their keys and values, and how many there are at most.
type kind struct {
	leastKey    int
	mostKey     int
	leastValue  int
	mostValue   int
	mostEntries int
}

// kinds are the least cells, the greatest, the longest keys with nothing beside them, long values, those about the edge, and any.
var kinds = []kind{
	{1, 1, 0, 0, 256},
	{40, 40, 64, 64, 300},
	{40, 40, 0, 0, 900},
	{1, 40, 65, 2048, 250},
	{1, 8, 62, 67, 300},
	{1, 40, 0, 200, 400},
}

// kept is a tree that lies on pages, and what it has.
type kept struct {
	tree tree.Tree
	list []api.Entry
}

// walk is a tree that lies on a disk, changed step by step, with trees ahead of it whose pages are held.
type walk struct {
	kind
	dice
	disk disk
	u    tree.Tree
	held []kept
	high int // of the trees' heights the greatest
	full int // how often there was no room
}

// key is one that is there, as often of a hundred times, or any.
func (w *walk) key(u tree.Tree, often int) string {
	if l := tree.All(u); len(l) > 0 && w.under(100) < often {
		return l[w.under(len(l))].Key
	}
	return w.text(w.leastKey, w.mostKey)
}

// near fails, unless a tree that one change made of one that lies needs few pages: of long values that of this change alone.
func near(t *testing.T, u tree.Tree, value int) {
	t.Helper()
	if n, most := stateOf(t, u).need, 3*tree.Height(u)+1+pagesOf(value); n > most {
		t.Fatalf("behind one change, at a height of %d, with a value of %d bytes: %d pages are needed", tree.Height(u), value, n)
	}
}

// changed is a tree with an entry more, or less, or, now and then, without all those of a span; and of how many bytes the value is that came.
func (w *walk) changed(t *testing.T, u tree.Tree, puts int) (tree.Tree, int) {
	t.Helper()
	if tree.Len(u) < w.mostEntries && w.under(100) < puts {
		value := w.text(w.leastValue, w.mostValue)
		return put(t, u, w.key(u, 20), value), len(value)
	}
	if w.under(20) > 0 {
		u, _ = tree.Delete(u, w.key(u, 95))
	} else {
		u, _ = cut.Remove(u, keys.Of(w.key(u, 50)[:1]))
	}
	return u, 0
}

// holds are the pages that the trees ahead hold.
func (w *walk) holds() bitset.Set {
	var s bitset.Set
	for _, k := range w.held {
		s = bitset.Either(s, plan.Used(k.tree))
	}
	return s
}

// commit lays a tree on pages that are free, with those of no tree any more scribbled over.
func (w *walk) commit(t *testing.T, u tree.Tree) {
	t.Helper()
	lasts := bitset.Either(w.holds(), plan.Used(w.u))
	free := bitset.Less(all, lasts)
	for page := range w.disk {
		if bitset.Has(free, page) {
			w.disk[page] = []byte(strings.Repeat("?", 512))
		}
	}
	if bitset.Count(free)-2 < plan.Need(u) {
		refused(t, u, free)
		w.full++
		w.held = nil
		return
	}
	was := maps.Clone(w.disk)
	w.u = laid(t, w.disk, u, free)
	w.high = max(w.high, tree.Height(u))
	for _, page := range bitset.All(lasts) {
		if !slices.Equal(w.disk[page], was[page]) {
			t.Fatalf("page %d was written, which was not free", page)
		}
	}
}

// hold holds the tree that lies there, or lets the first one go, once there are eight.
func (w *walk) hold() {
	if w.held = append(w.held, kept{w.u, tree.All(w.u)}); len(w.held) > 8 {
		w.held = w.held[1:]
	}
}

// look fails, unless each tree ahead lies where it lay.
func (w *walk) look(t *testing.T) {
	t.Helper()
	for _, k := range w.held {
		read(t, w.disk, plan.Root(k.tree), k.list, plan.Used(k.tree), tree.Height(k.tree))
	}
}

// step changes the tree once, or some times, and lays it; now and then it is held, and those ahead are looked at.
func (w *walk) step(t *testing.T, puts int) {
	t.Helper()
	u, value := w.changed(t, w.u, puts)
	if was := plan.Used(w.u); bitset.Less(plan.Used(u), was) != (bitset.Set{}) {
		t.Fatalf("behind a change %v are used, of what lay at %v", bitset.All(plan.Used(u)), bitset.All(was))
	}
	if tree.Len(w.u)-tree.Len(u) <= 1 {
		near(t, u, value)
	}
	for range w.under(4) {
		u, _ = w.changed(t, u, puts)
	}
	w.commit(t, u)
	if w.under(8) == 0 {
		w.hold()
	}
	if w.under(8) == 0 {
		w.look(t)
	}
}

// TestWalk: PL1, PL2, trees that are changed by one step or by some, and laid each time, beside trees ahead that stay where they lie.
func TestWalk(t *testing.T) {
	high, full := 0, 0
	for i, k := range kinds {
		w := &walk{kind: k, dice: dice(i + 1), disk: disk{}}
		u := tree.Tree{}
		for range k.mostEntries {
			u, _ = w.changed(t, u, 100)
		}
		w.commit(t, u)
		for round := range 160 {
			w.step(t, 90-round/40%2*70)
		}
		for u = w.u; tree.Len(u) > 0; w.commit(t, u) {
			for range w.under(w.mostEntries/8) + 1 {
				u, _ = w.changed(t, u, 0)
			}
		}
		w.look(t)
		high, full = max(high, w.high), full+w.full
	}
	// Else the walks would be too tame.
	if high < 4 || full < 1 {
		t.Errorf("the highest tree has %d nodes, and there was no room %d times", high, full)
	}
}

// TestSteps: PL1, of trees that lie, with nodes as thin and as full as may be: each entry another one, or gone, or one more beside it.
func TestSteps(t *testing.T) {
	d := dice(5)
	for _, k := range kinds {
		w := &walk{kind: k, dice: d, disk: disk{}}
		u := tree.Tree{}
		for range k.mostEntries {
			u = put(t, u, w.key(u, 0), w.text(k.leastValue, k.mostValue))
		}
		for tree.Len(u) > k.mostEntries/8 {
			thin := laid(t, disk{}, u, all)
			for _, e := range tree.All(u)[:10] {
				less, _ := tree.Delete(thin, e.Key)
				near(t, less, 0)
				for _, long := range []int{0, 1, 64, 65, 503, 2048} {
					near(t, put(t, thin, e.Key, strings.Repeat("z", long)), long)
					if len(e.Key) < 40 {
						near(t, put(t, thin, e.Key+"\x00", strings.Repeat("z", long)), long)
					}
				}
				same := put(t, thin, e.Key, e.Value)
				if stateOf(t, same) != stateOf(t, thin) {
					t.Fatalf("what is put as it was lies elsewhere")
				}
			}
			for range k.mostEntries / 8 {
				u, _ = tree.Delete(u, w.key(u, 100))
			}
		}
	}
}

// TestSides: PL1, PL2, out of one tree that lies come others, which share what is the same, and each is laid beside the others.
func TestSides(t *testing.T) {
	l := slices.Concat(row(60, 20, 40), []api.Entry{{Key: "zz", Value: strings.Repeat("z", 1500)}})
	for i := 3; i < len(l); i += 7 {
		l[i].Value = strings.Repeat("y", 600+i)
	}
	d := disk{}
	from := laid(t, d, of(t, l), all)
	lasts := plan.Used(from)
	list := []kept{{from, l}}
	for at := 0; at < len(l); at += 4 {
		less, _ := tree.Delete(from, l[at].Key)
		for _, u := range []tree.Tree{less, put(t, from, l[at].Key, strings.Repeat("x", 70)), put(t, less, l[at].Key, l[at].Value)} {
			v := laid(t, d, u, bitset.Less(all, lasts))
			lasts = bitset.Either(lasts, plan.Used(v))
			list = append(list, kept{v, tree.All(u)})
		}
	}
	for _, k := range list {
		read(t, d, plan.Root(k.tree), k.list, plan.Used(k.tree), tree.Height(k.tree))
		rests(t, k.tree)
	}
}

// TestTwice: PL2, no page is used twice, even if pages on which a tree lies are said to be free; and rule 4: laid again, all is the same.
func TestTwice(t *testing.T) {
	u := laid(t, disk{}, of(t, row(100, 20, 100)), set(bitset.All(all)[:400]...))
	for at, e := range tree.All(u) {
		v := put(t, u, e.Key, strings.Repeat("x", 80))
		need, used := plan.Need(v), plan.Used(v)
		a, writes, err := plan.Lay(v, all)
		b, again, twice := plan.Lay(v, all)
		if err != nil || twice != nil || len(writes) != need || stateOf(t, a) != stateOf(t, b) {
			t.Fatalf("Lay, entry %d: %v, %v, %d writes of %d", at, err, twice, len(writes), need)
		}
		for i, w := range writes {
			if bitset.Has(used, w.Page) || w.Page != again[i].Page || !slices.Equal(w.Bytes, again[i].Bytes) {
				t.Fatalf("Lay, entry %d: page %d is written, and %d, while %v are used", at, w.Page, again[i].Page, bitset.All(used))
			}
		}
		refused(t, v, used)
		refused(t, v, bitset.Either(used, bitset.Below(2)))
	}
}

// TestNew: rule 3, what is to be written is nobody else's, and not kept.
func TestNew(t *testing.T) {
	l := slices.Concat(row(40, 20, 60), pairs("zz", strings.Repeat("z", 1500)))
	u := of(t, l)
	v, writes, err := plan.Lay(u, all)
	if err != nil {
		t.Fatalf("Lay: %v", err)
	}
	d := disk{}
	for i, w := range writes {
		for _, other := range writes[:i] {
			b := slices.Clone(other.Bytes)
			clear(w.Bytes[:cap(w.Bytes)])
			if !slices.Equal(b, other.Bytes) {
				t.Fatalf("pages %d and %d share what is written", w.Page, other.Page)
			}
		}
		clear(w.Bytes)
	}
	clear(writes)
	if !slices.Equal(tree.All(u), l) || !slices.Equal(tree.All(v), l) {
		t.Errorf("trees keep what is to be written")
	}
	rests(t, v)
	laid(t, d, u, all)
	less, _ := tree.Delete(v, l[0].Key)
	if n := plan.Need(less); n == 0 || n > 3*tree.Height(less)+1 {
		t.Errorf("Need: %d", n)
	}
}
