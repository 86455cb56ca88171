package space_test

import (
	"slices"
	"testing"

	"warren/api"
	"warren/bitset"
	"warren/device"
	"warren/extent"
	"warren/space"
	"warren/tree"
)

// played is a space on its way through a row of acts.
type played struct {
	t    *testing.T
	d    *device.Device
	ext  []extent.Stretch
	s    *space.Space
	held bitset.Set
}

// act is something that is done to a space.
type act struct {
	name string
	do   func(*played) error
}

// commit is the act that commits what is made of the tree that lasts.
func commit(name string, change func(*testing.T, tree.Tree) tree.Tree) act {
	return act{name, func(p *played) error { return p.s.Commit(change(p.t, p.s.Tree()), p.held) }}
}

// hold is the act that holds the tree that lasts, too.
var hold = act{"hold", func(p *played) error {
	p.held = bitset.Either(p.held, p.s.Used())
	return nil
}}

// release is the act that holds nothing any more.
var release = act{"release", func(p *played) error {
	p.held = bitset.Set{}
	return p.s.Release(p.held)
}}

// grow is the act by which the space gets stretches.
func grow(more ...int) act {
	return act{"grow", func(p *played) error {
		p.ext = append(slices.Clone(p.ext), stretches(more...)...)
		return p.s.Grow(p.ext)
	}}
}

// acts are all kinds of them, in a row.
func acts() []act {
	more := func(letter string, many, value int) act {
		return commit("more "+letter, func(t *testing.T, u tree.Tree) tree.Tree { return with(t, u, letter, many, value) })
	}
	less := commit("less", func(t *testing.T, u tree.Tree) tree.Tree {
		return without(t, u, tree.All(u)[tree.Len(u)/2].Key)
	})
	same := commit("the same", func(_ *testing.T, u tree.Tree) tree.Tree { return u })
	nothing := commit("nothing", func(*testing.T, tree.Tree) tree.Tree { return tree.Tree{} })
	return []act{
		same, more("a", 1, 5), more("b", 12, 60), more("a", 1, 9), less, more("l", 1, 1100), hold,
		more("b", 3, 20), less, grow(31, 5), more("c", 9, 64), release, same, more("l", 1, 66), hold, nothing,
		more("d", 30, 40), hold, less, grow(0, 2, 39, 1), release, less, more("l", 1, 3), nothing, more("e", 2, 1),
	}
}

// replayed is a space behind the first acts, always the same one.
func replayed(t *testing.T, l []act) *played {
	t.Helper()
	p := &played{t: t, d: marked(t, 40), ext: stretches(15, 14, 6, 4)}
	p.s = formatted(t, p.d, p.ext)
	for _, a := range l {
		good(t, a.name, a.do(p))
	}
	return p
}

// keeps are choices of what is kept of so much: each, if it is little, else none, all, each alone, all but one, and some more.
func keeps(many int, c *dice) [][]bool {
	var l [][]bool
	if many <= 5 {
		for bits := range 1 << many {
			keep := make([]bool, many)
			for i := range keep {
				keep[i] = bits>>i&1 == 1
			}
			l = append(l, keep)
		}
		return l
	}
	l = append(l, nil, slices.Repeat([]bool{true}, many))
	for i := range many {
		alone, others := make([]bool, many), slices.Repeat([]bool{true}, many)
		alone[i], others[i] = true, false
		l = append(l, alone, others)
	}
	for range 12 {
		l = append(l, c.bits(many))
	}
	return l
}

// found is a tree, and its commit.
type found struct {
	seq  uint64
	list []api.Entry
}

// foundBy is what a space tells.
func foundBy(s *space.Space) found { return found{s.Seq(), tree.All(s.Tree())} }

// is tells whether both are the same.
func (f found) is(g found) bool { return f.seq == g.seq && slices.Equal(f.list, g.list) }

// survives fails, unless on a device behind a crash lies what was there ahead of it, or behind: it answers whether it is the latter.
// Nothing is dirty then, and it goes on from there; the way there may crash, too.
func survives(t *testing.T, what string, d *device.Device, ext []extent.Stretch, ahead, behind found, c *dice) bool {
	t.Helper()
	up := d.Copy()
	s := opened(t, up, ext)
	is := foundBy(s)
	if !is.is(ahead) && !is.is(behind) {
		t.Fatalf("%s: the commit %d of %d entries is found, neither %d nor %d", what, is.seq, len(is.list), ahead.seq, behind.seq)
	}
	lies(t, what, up, ext, is.seq, is.list, bitset.Set{})
	if c.under(50) == 0 {
		interrupted(t, what, d, ext, is, c)
	}
	u := put(t, s.Tree(), "later", "x")
	good(t, what, s.Commit(u, bitset.Set{}))
	lasts(t, what+", later", up, ext, s, is.seq+1, tree.All(u), bitset.Set{})
	return is.is(behind)
}

// interrupted fails, unless the same is found, too, if the device goes down again while it is opened.
func interrupted(t *testing.T, what string, d *device.Device, ext []extent.Stretch, is found, c *dice) {
	t.Helper()
	steps(t, what, d, func(e *device.Device) error {
		_, err := space.Open(e, ext, tenant, gen)
		return err
	}, func(_ int, e *device.Device) {
		many := len(e.Waiting())
		for _, keep := range [][]bool{nil, slices.Repeat([]bool{true}, many), c.bits(many)} {
			up := e.Copy()
			up.Crash(keep)
			if again := foundBy(opened(t, up, ext)); !again.is(is) {
				t.Fatalf("%s: the commit %d is found, and behind a crash as it is opened %d", what, is.seq, again.seq)
			}
			lies(t, what, up, ext, is.seq, is.list, bitset.Set{})
		}
	})
}

// apart fails, unless what is no page of the space is as it was.
func apart(t *testing.T, what string, d *device.Device, ext []extent.Stretch, was [][]byte) {
	t.Helper()
	up := d.Copy()
	up.Crash(slices.Repeat([]bool{true}, len(d.Waiting())))
	outside(t, what, up, ext, was)
}

// dead fails, unless a space whose device went down at one of its steps answers that for ever.
func dead(t *testing.T, what string, p *played) {
	t.Helper()
	for range 2 {
		wrong(t, what+", Commit", p.s.Commit(p.s.Tree(), p.held), api.ErrDown)
		wrong(t, what+", Release", p.s.Release(p.held), api.ErrDown)
		wrong(t, what+", Grow", p.s.Grow(p.ext), api.ErrDown)
		p.d.Crash(nil)
	}
}

// TestCrash: SE5, acts of all kinds on a device that goes down at each of their steps, with whatever being kept.
func TestCrash(t *testing.T) {
	c := dice(1)
	l := acts()
	old, young, crashes := 0, 0, 0
	for i, a := range l {
		p := replayed(t, l[:i])
		ahead, ext := foundBy(p.s), p.ext
		good(t, a.name, a.do(p))
		behind := foundBy(p.s)
		was := pagesOf(t, replayed(t, l[:i]).d)
		lies(t, a.name, p.d, p.ext, behind.seq, behind.list, p.held)
		for n := 0; ; n++ {
			p := replayed(t, l[:i])
			p.d.Arm(n)
			err := a.do(p)
			if !p.d.Down() {
				good(t, a.name, err)
				break
			}
			wrong(t, a.name, err, api.ErrDown)
			apart(t, a.name, p.d, p.ext, was)
			told := foundBy(p.s)
			for _, keep := range keeps(len(p.d.Waiting()), &c) {
				up := p.d.Copy()
				up.Crash(keep)
				crashes++
				is := survives(t, a.name, up, p.ext, ahead, behind, &c)
				if told.is(behind) && !is {
					t.Fatalf("%s: it tells of the commit %d, which does not last", a.name, told.seq)
				}
				if is {
					young++
				} else {
					old++
				}
				if len(ext) < len(p.ext) {
					survives(t, a.name+", as it was", up, ext, ahead, behind, &c)
				}
			}
			dead(t, a.name, p)
		}
	}
	// Else the acts would be too tame.
	if old < 500 || young < 500 {
		t.Errorf("%d crashes: %d times the old tree was found, %d times the young one", crashes, old, young)
	}
}

// TestCrashFormat: SE1, SE5, a device that goes down while a space is formatted, or wiped, over another one:
// what is found, if anything, is that one, or the empty tree; formatted again, it is as new.
func TestCrashFormat(t *testing.T) {
	c := dice(2)
	start := replayed(t, acts()[:6])
	is := foundBy(start.s)
	was := pagesOf(t, start.d)
	for what, do := range map[string]func(*device.Device) error{
		"Format": func(d *device.Device) error { return space.Format(d, start.ext, tenant, gen) },
		"Wipe":   func(d *device.Device) error { return space.Wipe(d, start.ext) },
	} {
		steps(t, what, start.d, do, func(_ int, d *device.Device) {
			apart(t, what, d, start.ext, was)
			for _, keep := range keeps(len(d.Waiting()), &c) {
				up := d.Copy()
				up.Crash(keep)
				s, err := space.Open(up, start.ext, tenant, gen)
				if err != nil {
					wrong(t, what, err, api.ErrCorrupt)
				} else if f := foundBy(s); !f.is(is) && !f.is(found{}) {
					t.Fatalf("%s: the commit %d of %d entries is found", what, f.seq, len(f.list))
				}
				s = formatted(t, up, start.ext)
				lasts(t, what+", again", up, start.ext, s, 0, nil, bitset.Set{})
			}
		})
	}
}
