package space_test

import (
	"slices"
	"testing"

	"warren/api"
	"warren/bitset"
	"warren/extent"
	"warren/tree"
)

// TestGrow: SE4, stretch by stretch, of pages on which something stands: they are noughts, and there is more room.
func TestGrow(t *testing.T) {
	d := marked(t, 40)
	s := formatted(t, d, eight[:3])
	good(t, "Commit", s.Commit(put(t, s.Tree(), "a", "x"), bitset.Set{}))
	l := tree.All(s.Tree())
	for n := 4; n <= 8; n++ {
		was := pagesOf(t, d)
		ext := slices.Clone(eight[:n])
		u := with(t, s.Tree(), "k", n*20, 60)
		refused(t, "no room", d, s, u, bitset.Set{}, api.ErrQuota)
		good(t, "Grow", s.Grow(ext))
		if !slices.Equal(ext, eight[:n]) {
			t.Error("what was handed in is changed")
		}
		lasts(t, "grown", d, eight[:n], s, 1, l, bitset.Set{})
		outside(t, "grown", d, eight[:n], was)
		for at, b := range numbered(pagesOf(t, d), eight[:n-1]) {
			if !slices.Equal(b, numbered(was, eight)[at]) {
				t.Errorf("page %d, which was there, is another one", at)
			}
		}
	}
	good(t, "Commit", s.Commit(with(t, s.Tree(), "k", 15, 60), bitset.Set{}))
	lasts(t, "grown", d, eight, s, 2, tree.All(s.Tree()), bitset.Set{})
}

// TestGrowMuch: SE4, by some stretches at once, up to as many pages as may be.
func TestGrowMuch(t *testing.T) {
	d := marked(t, 1024)
	s := formatted(t, d, stretches(1000, 3))
	all := stretches(1000, 3, 1003, 21, 0, 500, 600, 400, 500, 50, 550, 50)
	d.Arm(1 << 20)
	good(t, "Grow", s.Grow(all))
	lasts(t, "grown", d, all, s, 0, nil, bitset.Set{})
	good(t, "Commit", s.Commit(with(t, s.Tree(), "k", 190, 2048), bitset.Set{}))
	lasts(t, "grown", d, all, s, 1, tree.All(s.Tree()), bitset.Set{})
}

// TestGrowSteps: SE4, only what is new and not noughts is written, and synced; with the same stretches there is no step.
func TestGrowSteps(t *testing.T) {
	d := marked(t, 40)
	s := formatted(t, d, eight[:4])
	good(t, "Commit", s.Commit(with(t, s.Tree(), "k", 9, 30), bitset.Set{}))
	first := s.Used()
	l := tree.All(s.Tree())
	good(t, "Commit", s.Commit(put(t, s.Tree(), "k", "x"), first))
	good(t, "Commit", s.Commit(without(t, s.Tree(), "k"), first))
	was := pagesOf(t, d)
	many := sectors(numbered(was, eight)[len(places(eight[:4])):]...)
	d.Arm(0)
	good(t, "Grow, by nothing", s.Grow(eight[:4]))
	same(t, "by nothing", d, was)
	d.Arm(many + 1)
	good(t, "Grow", s.Grow(eight))
	// Nobody released what is held.
	lies(t, "grown", d, eight, 3, l, first)
	if first == s.Used() || sectors(numbered(pagesOf(t, d), eight)[bitset.All(first)[0]]) == 0 {
		t.Error("what is held is wiped")
	}
	d.Arm(0)
	good(t, "Grow, by nothing", s.Grow(eight))
	d.Arm(-1)
	isSpace(t, "grown", s, 3, l, len(places(eight)))
	good(t, "Release", s.Release(bitset.Set{}))
	lasts(t, "released", d, eight, s, 3, l, bitset.Set{})
	// With one step less it goes down.
	d = marked(t, 40)
	s = formatted(t, d, eight[:4])
	d.Arm(many)
	wrong(t, "Grow", s.Grow(eight), api.ErrDown)
	if !d.Down() {
		t.Error("Grow: it is not down")
	}
	d.Crash(nil)
	isSpace(t, "as it was", opened(t, d.Copy(), eight[:4]), 0, nil, len(places(eight[:4])))
	isSpace(t, "grown", opened(t, d, eight), 0, nil, len(places(eight)))
	lies(t, "grown", d, eight, 0, nil, bitset.Set{})
}

// TestGrowNot: SE4, stretches that do not begin with those there are, or may not be; nothing is done then.
func TestGrowNot(t *testing.T) {
	d := marked(t, 40)
	s := formatted(t, d, eight[:7])
	good(t, "Commit", s.Commit(with(t, s.Tree(), "k", 9, 30), bitset.Set{}))
	l := tree.All(s.Tree())
	was := pagesOf(t, d)
	longer := slices.Clone(eight)
	longer[6].Many++
	shorter := slices.Clone(eight)
	shorter[0].Many--
	turned := slices.Clone(eight)
	turned[0], turned[1] = turned[1], turned[0]
	shifted := slices.Clone(eight)
	shifted[1].From++
	lists := map[string][]extent.Stretch{
		"one less":       eight[:6],
		"one":            eight[:1],
		"one ahead":      append(stretches(15, 1), eight[:7]...),
		"one is longer":  longer,
		"one is shorter": shorter,
		"two are turned": turned,
		"one is shifted": shifted,
		"others":         stretches(0, 40),
		"nine":           append(slices.Clone(eight), stretches(15, 1)...),
		"a page of two":  append(slices.Clone(eight[:7]), stretches(11, 1)...),
		"behind the end": append(slices.Clone(eight[:7]), stretches(33, 8)...),
		"below 0":        append(slices.Clone(eight[:7]), stretches(-1, 2)...),
		"one is empty":   append(slices.Clone(eight[:7]), stretches(33, 0)...),
	}
	for what, ext := range bad() {
		lists[what] = ext
	}
	d.Arm(0)
	for what, ext := range lists {
		handed := slices.Clone(ext)
		wrong(t, what, s.Grow(ext), api.ErrArg)
		isSpace(t, what, s, 1, l, len(places(eight[:7])))
		if !slices.Equal(ext, handed) {
			t.Errorf("%s: what was handed in is changed", what)
		}
	}
	same(t, "what was refused", d, was)
	if d.Down() {
		t.Error("what was refused had a step")
	}
	d.Arm(-1)
	good(t, "Grow", s.Grow(eight))
	lasts(t, "grown", d, eight, s, 1, l, bitset.Set{})
}

// TestGrowOpened: SE4, a space that has grown is opened with the stretches that it had, as long as its tree lies there.
func TestGrowOpened(t *testing.T) {
	d := made(t, 40)
	s := formatted(t, d, stretches(0, 4))
	good(t, "Commit", s.Commit(put(t, s.Tree(), "a", "x"), bitset.Set{}))
	l := tree.All(s.Tree())
	good(t, "Grow", s.Grow(stretches(0, 4, 9, 9)))
	isSpace(t, "as it was", opened(t, d.Copy(), stretches(0, 4)), 1, l, 4)
	good(t, "Commit", s.Commit(with(t, s.Tree(), "k", 20, 60), bitset.Set{}))
	closed(t, "as it was", d.Copy(), stretches(0, 4), tenant, gen, api.ErrCorrupt)
	isSpace(t, "grown", opened(t, d, stretches(0, 4, 9, 9)), 2, tree.All(s.Tree()), 13)
}
