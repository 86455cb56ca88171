package space_test

import (
	"slices"
	"strings"
	"testing"

	"warren/api"
	"warren/bitset"
	"warren/device"
	"warren/extent"
	"warren/load"
	"warren/plan"
	"warren/space"
	"warren/tree"
)

// keptTree is a tree that was committed ahead, on pages that are held.
type keptTree struct {
	tree tree.Tree
	used bitset.Set
}

// ground is a space on a walk, and what it must have.
type ground struct {
	s    *space.Space
	ext  []extent.Stretch
	seq  uint64
	list []api.Entry
	held []keptTree
}

// holds are the pages that are held.
func (g *ground) holds() bitset.Set {
	var s bitset.Set
	for _, k := range g.held {
		s = bitset.Either(s, k.used)
	}
	return s
}

// walk are two spaces on a device, on which now and then it goes down.
type walk struct {
	dice
	d       *device.Device
	all     []extent.Stretch // what either space may get, one by one
	grounds []*ground
	past    []tree.Tree // trees of either space that were committed some time
	full    int         // how often there was no room
	downs   int         // how often the device went down
	lost    int         // how often a commit was lost then
}

// newWalk is one on a device that is not noughts.
func newWalk(t *testing.T, seed int) *walk {
	t.Helper()
	w := &walk{dice: dice(seed), d: marked(t, 90)}
	w.all = stretches(0, 6, 50, 4, 10, 5, 60, 6, 20, 3, 30, 5, 70, 9, 40, 2, 45, 4, 80, 5, 86, 1, 88, 2)
	for range 2 {
		g := &ground{ext: w.all[:2:2]}
		w.all = w.all[2:]
		g.s = formatted(t, w.d, g.ext)
		w.grounds = append(w.grounds, g)
	}
	return w
}

// changed is a tree with some entries more, less, or other ones.
func (w *walk) changed(t *testing.T, u tree.Tree) tree.Tree {
	t.Helper()
	for range w.under(7) {
		key := string(rune('a'+w.under(8))) + strings.Repeat("k", w.under(3)*10)
		switch w.under(8) {
		case 0, 1:
			u, _ = tree.Delete(u, key)
		case 2:
			u = put(t, u, key, strings.Repeat("l", 65+w.under(800)))
		default:
			u = put(t, u, key, strings.Repeat("v", w.under(65)))
		}
	}
	return u
}

// next is the tree to be committed: made of the one that lasts, or, now and then, of one that is held, or of any that was there some time.
func (w *walk) next(t *testing.T, g *ground) (tree.Tree, bool) {
	t.Helper()
	switch k := w.under(12); {
	case k == 0 && len(w.past) > 0:
		return w.changed(t, w.past[w.under(len(w.past))]), false
	case k == 1 && len(g.held) > 0:
		return w.changed(t, g.held[w.under(len(g.held))].tree), true
	case k == 2:
		return w.changed(t, tree.Tree{}), true
	default:
		return w.changed(t, g.s.Tree()), true
	}
}

// commit commits a tree: there is room just if chapter 20 says so, where the tree lies as it says.
func (w *walk) commit(t *testing.T, g *ground) {
	t.Helper()
	u, right := w.next(t, g)
	room := plan.Need(u) <= free(len(places(g.ext)), g.s, g.holds())
	l := tree.All(u)
	if right && !room {
		refused(t, "no room", w.d, g.s, u, g.holds(), api.ErrQuota)
		w.full++
		return
	}
	err := g.s.Commit(u, g.holds())
	if w.d.Down() {
		wrong(t, "Commit", err, api.ErrDown)
		w.crash(t, g, l)
		return
	}
	if !right && err != nil {
		wrong(t, "Commit", err, api.ErrQuota)
		return
	}
	good(t, "Commit", err)
	g.seq, g.list = g.seq+1, l
	w.past = append(w.past, g.s.Tree())
}

// crash lets the device come back, with whatever of what waited: one space is opened anew, with what it had, or with what it was to have; the other one goes on.
func (w *walk) crash(t *testing.T, g *ground, l []api.Entry) {
	t.Helper()
	w.downs++
	w.d.Crash(w.bits(len(w.d.Waiting())))
	wrong(t, "Release", g.s.Release(bitset.Set{}), api.ErrDown)
	g.s, g.held = opened(t, w.d, g.ext), nil
	if g.s.Seq() == g.seq {
		w.lost++
		return
	}
	g.seq, g.list = g.seq+1, l
}

// act does something to a space.
func (w *walk) act(t *testing.T, g *ground) {
	t.Helper()
	switch w.under(14) {
	case 0:
		g.held = append(g.held, keptTree{g.s.Tree(), g.s.Used()})
	case 1, 2:
		if len(g.held) > 0 {
			i := w.under(len(g.held))
			g.held = slices.Delete(g.held, i, i+1)
			good(t, "Release", g.s.Release(g.holds()))
		}
	case 3:
		if w.under(4) == 0 && len(g.ext) < 7 && len(w.all) > 0 {
			g.ext = append(slices.Clone(g.ext), w.all[0])
			w.all = w.all[1:]
			good(t, "Grow", g.s.Grow(g.ext))
		}
	case 4:
		g.s, g.held = opened(t, w.d, g.ext), nil
	case 5:
		w.d.Arm(w.under(40))
		w.commit(t, g)
		w.d.Arm(-1)
	default:
		w.commit(t, g)
	}
}

// look fails, unless each space is as it must be, and trees that are held lie where they lay.
func (w *walk) look(t *testing.T) {
	t.Helper()
	for _, g := range w.grounds {
		lasts(t, "a walk", w.d, g.ext, g.s, g.seq, g.list, g.holds())
		pages := numbered(pagesOf(t, w.d), g.ext)
		for _, k := range g.held {
			u, err := load.Load(pages, plan.Root(k.tree), tree.Len(k.tree))
			good(t, "Load, of a tree that is held", err)
			if !slices.Equal(tree.All(u), tree.All(k.tree)) || plan.Used(u) != k.used {
				t.Fatalf("a tree that is held is another one")
			}
		}
	}
}

// TestWalk: SE1 to SE5, two spaces beside one another that are changed, held, released, grown, opened anew, and crash.
func TestWalk(t *testing.T) {
	full, downs, lost := 0, 0, 0
	for seed := range 12 {
		w := newWalk(t, seed+1)
		for range 250 {
			w.act(t, w.grounds[w.under(2)])
			w.look(t)
			if t.Failed() {
				t.Fatalf("seed %d", seed)
			}
		}
		full, downs, lost = full+w.full, downs+w.downs, lost+w.lost
	}
	// Else the walks would be too tame.
	if full < 20 || downs < 50 || lost < 10 || lost == downs {
		t.Errorf("%d times there was no room, %d times the device went down, and %d commits were lost", full, downs, lost)
	}
}
