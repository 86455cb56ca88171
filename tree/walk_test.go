package tree_test

import (
	"cmp"
	"slices"
	"strings"
	"testing"

	"warren/api"
	"warren/tree"
)

// dice throws numbers that are the same each time.
type dice uint32

// under is one below n.
func (d *dice) under(n int) int {
	*d = *d*1664525 + 1013904223
	return int(*d>>8) % n
}

// text is one of from least to most bytes.
func (d *dice) text(least, most int) string {
	b := make([]byte, least+d.under(most-least+1))
	for i := range b {
		b[i] = byte(d.under(256))
	}
	return string(b)
}

// kind is what a walk's entries are like: the sizes of their keys and values, and how many there are at most.
type kind struct {
	name        string
	leastKey    int
	mostKey     int
	leastValue  int
	mostValue   int
	mostEntries int
}

// kinds are what walks are tried with: the least cells and the greatest, the longest keys with nothing beside them, and others.
var kinds = []kind{
	{"least cells", 1, 1, 0, 0, 256},
	{"few bytes", 1, 2, 0, 3, 400},
	{"greatest cells", 40, 40, 64, 64, 300},
	{"long keys", 40, 40, 0, 0, 900},
	{"keys of any size", 1, 40, 0, 2, 700},
	{"values of any size that lie in leaves", 1, 3, 0, 64, 500},
	{"values about the edge", 1, 8, 62, 67, 500},
	{"long values", 1, 40, 65, 2048, 300},
	{"any", 1, 40, 0, 200, 600},
}

// key is one of a list, if that has some, as often of a hundred times, or any.
func (k kind) key(d *dice, list []string, often int) string {
	if len(list) > 0 && d.under(100) < often {
		return list[d.under(len(list))]
	}
	return d.text(k.leastKey, k.mostKey)
}

// entries are those of a map, in the order of their keys.
func entries(m map[string]string) []api.Entry {
	var l []api.Entry
	for key, value := range m {
		l = append(l, api.Entry{Key: key, Value: value})
	}
	slices.SortFunc(l, func(a, b api.Entry) int { return cmp.Compare(a.Key, b.Key) })
	return l
}

// seen is a tree, and what it had when it was answered.
type seen struct {
	tree tree.Tree
	had  []api.Entry
}

// walk is a tree on its way, with what it must have.
type walk struct {
	kind
	dice
	m     map[string]string
	list  []string // of the map's keys, in the order in which they came
	u     tree.Tree
	seen  []seen
	great int // cells of the leaf with the most
	high  int // of the trees' heights the greatest
}

// step puts something, or deletes something, as often as it is told, and holds what is answered against the map.
func (w *walk) step(t *testing.T, deletes int) {
	t.Helper()
	was := w.u
	if w.under(100) < deletes || len(w.m) == w.mostEntries {
		w.delete(t, w.key(&w.dice, w.list, 95))
	} else {
		w.put(t, w.key(&w.dice, w.list, 20), w.text(w.leastValue, w.mostValue))
	}
	w.look(t, was)
}

// put puts an entry.
func (w *walk) put(t *testing.T, key, value string) {
	t.Helper()
	if _, ok := w.m[key]; !ok {
		w.list = append(w.list, key)
	}
	w.u, w.m[key] = put(t, w.u, key, value), value
	if got, ok := tree.Get(w.u, key); got != value || !ok {
		t.Fatalf("%s: Get(%q): %.80q, %v, not %.80q", w.name, key, got, ok, value)
	}
}

// delete deletes a key, be it there or not.
func (w *walk) delete(t *testing.T, key string) {
	t.Helper()
	at := slices.Index(w.list, key)
	u, ok := tree.Delete(w.u, key)
	if ok != (at >= 0) {
		t.Fatalf("%s: Delete(%q): %v", w.name, key, ok)
	}
	if ok {
		w.list = slices.Delete(w.list, at, at+1)
		delete(w.m, key)
	}
	w.u = u
	if value, ok := tree.Get(u, key); value != "" || ok {
		t.Fatalf("%s: Get(%q): %.80q, %v", w.name, key, value, ok)
	}
}

// look fails, unless the tree is right, and as the map says.
func (w *walk) look(t *testing.T, was tree.Tree) {
	t.Helper()
	if fault := tree.Fault(w.u); fault != "" || tree.Len(w.u) != len(w.m) {
		t.Fatalf("%s: of %d entries, Len %d: %s", w.name, len(w.m), tree.Len(w.u), fault)
	}
	if n := tree.Other(w.u, was); n > 3*tree.Height(w.u)+1 {
		t.Fatalf("%s: one step makes %d nodes at a height of %d", w.name, n, tree.Height(w.u))
	}
	if len(w.m) < 200 && tree.Height(w.u) > 4 {
		t.Fatalf("%s: of %d entries, Height: %d", w.name, len(w.m), tree.Height(w.u))
	}
	w.great, w.high = max(w.great, tree.Widest(w.u)), max(w.high, tree.Height(w.u))
}

// keep keeps the tree, and what it has, to be looked at once the walk is over.
func (w *walk) keep(t *testing.T) {
	t.Helper()
	l := entries(w.m)
	has(t, w.u, l)
	w.seen = append(w.seen, seen{w.u, l})
}

// walked is a walk of that kind that goes up to many entries, down to few, and so on, and ends with none.
func walked(t *testing.T, k kind, seed int) *walk {
	w := &walk{kind: k, dice: dice(seed), m: map[string]string{}}
	for round := range 4 {
		for range 2 * k.mostEntries {
			w.step(t, 10)
			if w.under(100) == 0 {
				w.keep(t)
			}
		}
		for n := w.under(k.mostEntries / 4); len(w.m) > n && round < 3 || len(w.m) > 0 && round == 3; {
			w.step(t, 90)
			if w.under(100) == 0 {
				w.keep(t)
			}
		}
		w.keep(t)
	}
	return w
}

// TestWalk: TR1 to TR3, puts and deletes of each kind, at each step right, and as a map says; trees ahead stay what they were.
func TestWalk(t *testing.T) {
	great, high := 0, 0
	for i, k := range kinds {
		w := walked(t, k, i+1)
		for _, s := range w.seen {
			has(t, s.tree, s.had)
		}
		great, high = max(great, w.great), max(high, w.high)
	}
	// Else the walks would be too tame: a leaf of more than 127 cells counts them in two bytes.
	if great < 140 || high < 4 {
		t.Errorf("the greatest leaf has %d cells, the highest tree %d nodes", great, high)
	}
}

// thinned is a tree of that kind out of which most entries went, so that its nodes have little more than enough, and what it has.
func thinned(t *testing.T, k kind, d *dice) (tree.Tree, []api.Entry) {
	t.Helper()
	m := map[string]string{}
	for range k.mostEntries {
		m[d.text(k.leastKey, k.mostKey)] = d.text(k.leastValue, k.mostValue)
	}
	l := entries(m)
	u := of(t, l)
	for len(l) > k.mostEntries/4 {
		at := d.under(len(l))
		u, _ = tree.Delete(u, l[at].Key)
		l = slices.Delete(l, at, at+1)
	}
	has(t, u, l)
	return u, l
}

// TestSides: TR3, out of one tree come many others, by one change each, or two, and none of them knows of the others, whichever nodes they share.
func TestSides(t *testing.T) {
	d := dice(7)
	for _, k := range kinds {
		from, l := thinned(t, k, &d)
		var all []seen
		for at, e := range l {
			less, _ := tree.Delete(from, e.Key)
			had := slices.Delete(slices.Clone(l), at, at+1)
			all = append(all, seen{less, had})
			if at < len(had) {
				fewer, _ := tree.Delete(less, had[at].Key)
				all = append(all, seen{fewer, slices.Delete(slices.Clone(had), at, at+1)})
			}
			had = slices.Clone(l)
			had[at].Value = d.text(0, 64)
			all = append(all, seen{put(t, from, e.Key, had[at].Value), had})
			if len(e.Key) < 40 {
				more := api.Entry{Key: e.Key + "\x00", Value: d.text(0, 64)}
				had = slices.DeleteFunc(slices.Clone(l), func(other api.Entry) bool { return other.Key == more.Key })
				all = append(all, seen{put(t, from, more.Key, more.Value), slices.Insert(had, at+1, more)})
			}
		}
		has(t, from, l)
		for _, s := range all {
			has(t, s.tree, s.had)
		}
	}
}

// sized is an entry of a key of so many bytes, which begins with a number's two, and a value of so many.
func sized(n, key, value int) api.Entry {
	head := string([]byte{byte(n >> 8), byte(n)})
	return api.Entry{Key: head + strings.Repeat("x", key-2), Value: strings.Repeat("y", value)}
}

// TestRows: TR3, entries put, and then deleted, in rows: forwards, backwards, and from the middle on.
func TestRows(t *testing.T) {
	const n = 600
	rows := [][]int{nil, nil, nil}
	for i := range n {
		rows[0], rows[1] = append(rows[0], i), append(rows[1], n-1-i)
		rows[2] = append(rows[2], (n/2+i*(n-1))%n)
	}
	for _, sizes := range [][2]int{{2, 0}, {2, 64}, {40, 0}, {40, 64}, {40, 65}, {21, 20}} {
		for _, up := range rows {
			for _, down := range rows {
				u := tree.Tree{}
				for i, at := range up {
					e := sized(at, sizes[0], sizes[1])
					u = put(t, u, e.Key, e.Value)
					low(t, u, i+1)
				}
				for i, at := range down {
					u, _ = tree.Delete(u, sized(at, sizes[0], sizes[1]).Key)
					low(t, u, n-1-i)
				}
			}
		}
	}
}

// low fails, unless a tree is right, has so many entries, and is not too high for these.
func low(t *testing.T, u tree.Tree, n int) {
	t.Helper()
	if fault := tree.Fault(u); fault != "" || tree.Len(u) != n {
		t.Fatalf("of %d entries, Len %d: %s", n, tree.Len(u), fault)
	}
	if n < 200 && tree.Height(u) > 4 {
		t.Fatalf("of %d entries, Height: %d", n, tree.Height(u))
	}
}

// TestThin: TR3, trees of many entries, of which few are left here and there, are not too high.
func TestThin(t *testing.T) {
	d := dice(11)
	for _, sizes := range [][2]int{{40, 64}, {40, 0}, {2, 64}, {40, 24}} {
		var l []api.Entry
		for i := range 4096 {
			l = append(l, sized(i, sizes[0], sizes[1]))
		}
		u := of(t, l)
		has(t, u, l)
		for len(l) > 100 {
			at := d.under(len(l))
			// Now and then what is left becomes less, or more.
			if e := l[at]; d.under(4) == 0 {
				l[at].Value = strings.Repeat("z", 64-min(len(e.Value), 64))
				u = put(t, u, e.Key, l[at].Value)
			} else {
				u, _ = tree.Delete(u, e.Key)
				l = slices.Delete(l, at, at+1)
			}
			if len(l)%16 == 0 || len(l) < 200 {
				low(t, u, len(l))
			}
		}
		has(t, u, l)
	}
}

// TestEdges: Words, at each byte about a load, and about enough of one: entries whose values become longer, or shorter, byte by byte.
func TestEdges(t *testing.T) {
	for n := 4; n <= 24; n++ {
		for _, key := range []int{2, 3, 17, 39, 40} {
			for _, value := range []int{0, 31, 64} {
				var l []api.Entry
				for i := range n {
					l = append(l, sized(i, key, value))
				}
				u := of(t, l)
				has(t, u, l)
				for _, at := range []int{0, n / 2, n - 1} {
					for long := range 67 {
						v := put(t, u, l[at].Key, strings.Repeat("z", long))
						low(t, v, n)
						w, _ := tree.Delete(v, l[(at+1)%n].Key)
						low(t, w, n-1)
					}
				}
			}
		}
	}
}
