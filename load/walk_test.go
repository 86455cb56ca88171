package load_test

import (
	"slices"
	"strconv"
	"strings"
	"testing"

	"warren/api"
	"warren/bitset"
	"warren/plan"
	"warren/tree"
)

// dice throws numbers that are the same each time.
type dice uint32

// under is one below n.
func (d *dice) under(n int) int {
	*d = *d*1664525 + 1013904223
	return int(*d>>8) % n
}

// text is one of from least to most bytes.
func (d *dice) text(least, most int) string {
	b := make([]byte, least+d.under(most-least+1))
	for i := range b {
		b[i] = byte(d.under(256))
	}
	return string(b)
}

// kind is what a walk's entries are like: the sizes of their keys and values, and how many there are at most.
type kind struct {
	leastKey    int
	mostKey     int
	leastValue  int
	mostValue   int
	mostEntries int
}

// kinds are the least cells, the greatest, the longest keys with nothing beside them, long values, those about the edge, and any.
var kinds = []kind{
	{1, 1, 0, 0, 256},
	{40, 40, 64, 64, 300},
	{40, 40, 0, 0, 900},
	{1, 40, 65, 2048, 150},
	{1, 8, 62, 67, 300},
	{1, 40, 0, 200, 400},
}

// walk is a tree that lies on pages, changed step by step, and loaded behind each.
type walk struct {
	kind
	dice
	pages [][]byte
	u     tree.Tree
	high  int // of the trees' heights the greatest
}

// newWalk is one whose tree is empty, on pages that are none.
func newWalk(k kind, seed int) *walk {
	w := &walk{kind: k, dice: dice(seed), pages: make([][]byte, 1024)}
	for i := range w.pages {
		w.pages[i] = []byte(strings.Repeat("?", 512))
	}
	return w
}

// put is a tree with an entry that may be put.
func put(t *testing.T, u tree.Tree, key, value string) tree.Tree {
	t.Helper()
	v, err := tree.Put(u, key, value)
	if err != nil {
		t.Fatalf("Put(%q, %d bytes): %v", key, len(value), err)
	}
	return v
}

// changed is a tree with an entry more, or another one, or one less; and of how many bytes the value is that came.
func (w *walk) changed(t *testing.T, u tree.Tree, puts int) (tree.Tree, int) {
	t.Helper()
	l := tree.All(u)
	key := w.text(w.leastKey, w.mostKey)
	if len(l) > 0 && w.under(100) > puts {
		key = l[w.under(len(l))].Key
	}
	if len(l) < w.mostEntries && w.under(100) < puts {
		value := w.text(w.leastValue, w.mostValue)
		return put(t, u, key, value), len(value)
	}
	u, _ = tree.Delete(u, key)
	return u, 0
}

// near fails, unless of a tree that one change made of the one that was loaded almost all lies where it lay.
func (w *walk) near(t *testing.T, u tree.Tree, value int) {
	t.Helper()
	if n, most := plan.Need(u), 3*tree.Height(u)+1+pagesOf(value); n > most {
		t.Fatalf("behind one change, at a height of %d, with a value of %d bytes: %d pages are needed", tree.Height(u), value, n)
	}
	if more := bitset.Less(plan.Used(u), plan.Used(w.u)); more != (bitset.Set{}) {
		t.Fatalf("behind one change %v are used, which were not", bitset.All(more))
	}
}

// commit lays a tree on some of the pages that are free, and loads it; of the others those that are free are none then.
func (w *walk) commit(t *testing.T, u tree.Tree) {
	t.Helper()
	free := bitset.Less(bitset.Below(1024), plan.Used(w.u))
	for _, page := range bitset.All(free) {
		w.pages[page] = []byte(strings.Repeat("?", 512))
		if w.under(4) == 0 {
			free = bitset.Without(free, page)
		}
	}
	on, writes, err := plan.Lay(u, free)
	if err != nil {
		t.Fatalf("Lay, %d pages, on %d: %v", plan.Need(u), bitset.Count(free), err)
	}
	for _, to := range writes {
		w.pages[to.Page] = to.Bytes
	}
	w.u = loaded(t, "what was laid", w.pages, plan.Root(on), tree.All(u))
	if told(w.u) != told(on) || tree.Height(w.u) != tree.Height(u) {
		t.Fatalf("Load: it lies at %s, and was laid at %s", told(w.u), told(on))
	}
	w.high = max(w.high, tree.Height(w.u))
}

// TestWalk: LD2, trees that are changed, laid and loaded, each made of the one that was loaded ahead: what is the same lies where it lay.
func TestWalk(t *testing.T) {
	high := 0
	for i, k := range kinds {
		w := newWalk(k, i+1)
		w.commit(t, w.u)
		u := w.u
		for range k.mostEntries {
			u, _ = w.changed(t, u, 100)
		}
		w.commit(t, u)
		for round := range 24 {
			puts := 90 - round/6%2*70
			u, value := w.changed(t, w.u, puts)
			w.near(t, u, value)
			for range w.under(8) {
				u, _ = w.changed(t, u, puts)
			}
			w.commit(t, u)
		}
		for u = w.u; tree.Len(u) > 0; w.commit(t, u) {
			for range w.under(w.mostEntries/4) + 1 {
				u, _ = w.changed(t, u, 0)
			}
		}
		high = max(high, w.high)
	}
	// Else the walks would be too tame.
	if high < 4 {
		t.Errorf("the highest tree has %d nodes", high)
	}
}

// TestFirst: LD2, a tree of each number of entries, of each kind.
func TestFirst(t *testing.T) {
	for i, k := range kinds {
		w := newWalk(k, i+50)
		for n := range 25 {
			u := tree.Tree{}
			for tree.Len(u) < n {
				u, _ = w.changed(t, u, 100)
			}
			w.u = tree.Tree{}
			w.commit(t, u)
		}
	}
}

// TestFull: LD2, trees of as many entries as there may be, and on as many pages.
func TestFull(t *testing.T) {
	w := newWalk(kind{}, 9)
	u := tree.Tree{}
	for i := range 4096 {
		u = put(t, u, key(i*7%4096, 9), "")
	}
	w.commit(t, u)
	w = newWalk(kind{}, 10)
	u = tree.Tree{}
	for i := 0; plan.Need(u) < 700; i++ {
		u = put(t, u, key(i, 40), strings.Repeat("z", i%1100))
	}
	w.commit(t, u)
}

// mutant is a tree that lies on few pages, in which something is another one.
type mutant struct {
	dice
	pages [][]byte
	refs  []ref
	used  []int
}

// page is one of those that the tree uses.
func (m *mutant) page() int { return m.used[m.under(len(m.used))] }

// set sets bytes of a page's load, or of how long it is, and sums it again.
func (m *mutant) set(page, at int, bytes ...byte) { m.pages[page] = set(m.pages[page], at, bytes) }

// byte is a byte as it may be found in a load, or any.
func (m *mutant) byte(was byte) byte {
	switch m.under(4) {
	case 0:
		return was + 1
	case 1:
		return was - 1
	case 2:
		return was ^ 1<<m.under(8)
	default:
		return byte(m.under(256))
	}
}

// reloaded gives a page another load of the same kind, if it has room for that.
func (m *mutant) reloaded(page int, load []byte) {
	if len(load) <= 504 {
		m.pages[page] = sealed(m.pages[page][0], load)
	}
}

// change makes something another one.
func (m *mutant) change() {
	page, other := m.page(), m.page()
	load := loadOf(m.pages[page])
	at := m.under(len(load) + 1)
	switch m.under(9) {
	case 0, 1, 2:
		at = min(at, max(len(load)-1, 0))
		m.set(page, 4+at, m.byte(m.pages[page][4+at]))
	case 3:
		r := m.refs[m.under(len(m.refs))]
		m.set(r.page, r.at, two(m.under(len(m.pages)+1))...)
	case 4:
		m.reloaded(page, slices.Insert(slices.Clone(load), at, byte(m.under(256))))
	case 5:
		m.reloaded(page, slices.Delete(slices.Clone(load), max(at-1, 0), at))
	case 6:
		m.pages[page], m.pages[other] = m.pages[other], m.pages[page]
	case 7:
		m.reloaded(page, slices.Concat(load[:at], loadOf(m.pages[other])))
	default:
		m.set(page, 0, byte(m.under(7)))
	}
}

// TestMutants: LD1, trees in which some bytes are others, with right sums: what a second reader finds is loaded, and what it doesn't is refused.
func TestMutants(t *testing.T) {
	d := dice(77)
	right, wrong := 0, 0
	for round := range 12000 {
		p := rooted(1 + round%3)
		if round%2 == 0 {
			p = parted(p.entries()[:3+d.under(min(20, len(p.entries())-2))], 6)
		}
		if len(p.kids) == 1 {
			p = p.kids[0]
		}
		pages, root := laid(p)
		r, _ := read(pages, root)
		if len(r.refs) == 0 {
			r.refs = []ref{{root, 4}}
		}
		m := &mutant{dice: d, pages: pages, refs: r.refs, used: bitset.All(bitset.Less(bitset.Below(len(pages)), bitset.Below(2)))}
		for range 1 + m.under(2) {
			m.change()
		}
		d = m.dice
		if r, ok := read(m.pages, root); ok {
			loaded(t, "mutant "+strconv.Itoa(round), m.pages, root, r.list)
			right++
		} else {
			broken(t, "mutant "+strconv.Itoa(round), m.pages, root, len(p.entries()))
			wrong++
		}
	}
	if right < 2000 || wrong < 2000 {
		t.Errorf("%d are right, and %d wrong", right, wrong)
	}
}

// TestShares: rule 3, a tree that was loaded twice is two trees, and no change of the one is seen in the other one.
func TestShares(t *testing.T) {
	p := rooted(3)
	d, root := laid(p)
	a := loaded(t, "a tree", d, root, p.entries())
	b := loaded(t, "a tree, again", d, root, p.entries())
	for i, e := range p.entries() {
		less, _ := tree.Delete(a, e.Key)
		more := put(t, a, e.Key, "other")
		want := slices.Delete(p.entries(), i, i+1)
		if !slices.Equal(tree.All(less), want) || !slices.Equal(tree.All(more), slices.Insert(want, i, api.Entry{Key: e.Key, Value: "other"})) {
			t.Fatalf("without %q, or with another value, there are %d entries, or %d", e.Key, tree.Len(less), tree.Len(more))
		}
	}
	if told(a) != told(b) || !slices.Equal(tree.All(b), p.entries()) {
		t.Errorf("changes of one tree are seen in the other one")
	}
}
