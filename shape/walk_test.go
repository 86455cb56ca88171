package shape_test

import (
	"maps"
	"slices"
	"testing"

	"warren/api"
	"warren/cut"
	"warren/keys"
	"warren/shape"
	"warren/tree"
)

// dice throws numbers that are the same each time.
type dice uint32

// under is one below n.
func (d *dice) under(n int) int {
	*d = *d*1664525 + 1013904223
	return int(*d>>8) % n
}

// text is one of from least to most bytes.
func (d *dice) text(least, most int) string {
	b := make([]byte, least+d.under(most-least+1))
	for i := range b {
		b[i] = byte(d.under(256))
	}
	return string(b)
}

// kind is what a walk's entries are like: the sizes of their keys and values, and how many there are at most.
type kind struct {
	leastKey    int
	mostKey     int
	leastValue  int
	mostValue   int
	mostEntries int
}

// kinds are the least cells, the greatest, the longest keys with nothing beside them, long values, those about the edge, and any.
var kinds = []kind{
	{1, 1, 0, 0, 256},
	{40, 40, 64, 64, 200},
	{40, 40, 0, 0, 400},
	{1, 40, 65, 2048, 200},
	{1, 8, 62, 67, 200},
	{1, 40, 0, 200, 300},
}

// walk is a tree on its way, with what it must have.
type walk struct {
	kind
	dice
	m map[string]string
	u tree.Tree
}

// entries are those that the tree must have.
func (w *walk) entries() []api.Entry {
	var l []api.Entry
	for _, key := range slices.Sorted(maps.Keys(w.m)) {
		l = append(l, api.Entry{Key: key, Value: w.m[key]})
	}
	return l
}

// key is one that is there, as often of a hundred times, or any.
func (w *walk) key(often int) string {
	if l := tree.All(w.u); len(l) > 0 && w.under(100) < often {
		return l[w.under(len(l))].Key
	}
	return w.text(w.leastKey, w.mostKey)
}

// put puts an entry.
func (w *walk) put(t *testing.T) {
	t.Helper()
	key, value := w.key(20), w.text(w.leastValue, w.mostValue)
	u, err := tree.Put(w.u, key, value)
	if err != nil {
		t.Fatalf("Put(%q, %d bytes): %v", key, len(value), err)
	}
	w.u, w.m[key] = u, value
}

// remove takes an entry away, or, now and then, all those of a span.
func (w *walk) remove() {
	if w.under(20) > 0 {
		key := w.key(95)
		w.u, _ = tree.Delete(w.u, key)
		delete(w.m, key)
		return
	}
	s := keys.Of(w.key(50)[:1])
	w.u, _ = cut.Remove(w.u, s)
	maps.DeleteFunc(w.m, func(key, _ string) bool { return keys.Has(s, key) })
}

// look fails, unless the tree is right, and takes no more pages than Most; now and then all that it has is looked at, and it is told how high the tree is.
func (w *walk) look(t *testing.T) int {
	t.Helper()
	if w.under(16) == 0 {
		right(t, w.u, w.entries())
	}
	if err := shape.Check(w.u); err != nil {
		t.Fatalf("Check, of %d entries: %v", len(w.m), err)
	}
	f := shape.Of(w.u)
	if n, err := shape.Most(tree.All(w.u)); shape.Pages(f) > n || err != nil || f.Entries != len(w.m) {
		t.Fatalf("Of %d entries: %+v, and Most: %d, %v", len(w.m), f, n, err)
	}
	return f.Height
}

// TestWalk: SP1 to SP3, trees that came by puts, deletes and removes of each kind are right at each step, and take no more pages than Most.
func TestWalk(t *testing.T) {
	high := 0
	for i, k := range kinds {
		w := &walk{kind: k, dice: dice(i + 1), m: map[string]string{}}
		for range 3 {
			for range 2 * k.mostEntries {
				if len(w.m) < k.mostEntries && w.under(10) > 0 {
					w.put(t)
				} else {
					w.remove()
				}
				high = max(high, w.look(t))
			}
			for n := w.under(20); len(w.m) > n; {
				w.remove()
				w.look(t)
			}
			right(t, w.u, w.entries())
		}
	}
	// Else the walks would be too tame.
	if high < 3 {
		t.Errorf("the highest tree has %d nodes", high)
	}
}

// TestFull: SP3, trees of as many entries as there may be, put in order, the other way round, and in no order, and of what is left of them.
func TestFull(t *testing.T) {
	for _, sizes := range [][2]int{{6, 0}, {40, 0}, {40, 64}, {40, 65}, {21, 20}} {
		l := row(4096, sizes[0], sizes[1])
		turned, mixed := slices.Clone(l), slices.Clone(l)
		slices.Reverse(turned)
		for i := range mixed {
			mixed[i] = l[i*1237%len(l)]
		}
		for _, order := range [][]api.Entry{l, turned, mixed} {
			u, left := of(t, order), slices.Clone(l)
			right(t, u, left)
			for at := 0; at < len(left); at += 2 {
				u, _ = tree.Delete(u, left[at].Key)
				left = slices.Delete(left, at, at+1)
			}
			right(t, u, left)
			u, _ = cut.Remove(u, keys.Span{Lo: left[40].Key, Hi: left[len(left)-3].Key})
			right(t, u, slices.Delete(left, 40, len(left)-3))
		}
	}
}

// TestAhead: SP3, what a tree is made of stays, whatever is made of it.
func TestAhead(t *testing.T) {
	l := row(900, 40, 70)
	u := of(t, l)
	was := right(t, u, l)
	v := u
	for at, e := range l {
		v, _ = tree.Delete(v, e.Key)
		right(t, v, l[at+1:])
	}
	if f := right(t, u, l); f != was {
		t.Errorf("Of: %+v, not %+v", f, was)
	}
	if f := shape.Of(v); f != (shape.Facts{}) {
		t.Errorf("Of what has no entries any more: %+v", f)
	}
}
