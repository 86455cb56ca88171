package shape_test

import (
	"slices"
	"strconv"
	"strings"
	"testing"

	"warren/api"
	"warren/shape"
	"warren/tree"
)

// plain is a node that can be changed: a leaf with cells, or a branch with kids.
type plain struct {
	cells   []api.Entry
	between []string
	kids    []*plain
}

// node is the tree's node of a plain one, and of all below it.
func (p *plain) node() tree.Node {
	if p.kids == nil && p.between == nil {
		return tree.Leaf(p.cells)
	}
	var kids []tree.Node
	for _, kid := range p.kids {
		kids = append(kids, kid.node())
	}
	return tree.Branch(p.between, kids)
}

// all are those from a plain node on downwards that are leaves, or branches.
func (p *plain) all(leaves bool) []*plain {
	var l []*plain
	if (p.kids == nil) == leaves {
		l = append(l, p)
	}
	for _, kid := range p.kids {
		l = append(l, kid.all(leaves)...)
	}
	return l
}

// part is how many numbers there are for a leaf's keys; the first one is for the key between it and what lies ahead.
const part = 100

// leafOf is the leaf of a part; it has 127 bytes.
func leafOf(at int) *plain {
	return &plain{cells: []api.Entry{sized(part*at+30, 40, 0), sized(part*at+50, 40, 0), sized(part*at+70, 40, 0)}}
}

// over is a branch over plain nodes, each of so many parts, from a part on, with keys of 40 bytes between.
func over(at, parts int, kids ...*plain) *plain {
	p := &plain{kids: kids}
	for i := range kids[1:] {
		p.between = append(p.between, key(part*(at+parts*(i+1)), 40))
	}
	return p
}

// grown is a plain node of that height, from a part on, that may stand anywhere: with four kids, a branch has 131 bytes; and how many parts it has.
func grown(at, high int) (*plain, int) {
	if high == 1 {
		return leafOf(at), 1
	}
	var kids []*plain
	parts := 0
	for i := range 4 {
		kid, n := grown(at+i*parts, high-1)
		kids, parts = append(kids, kid), n
	}
	return over(at, parts, kids...), 4 * parts
}

// rooted is the root of a right tree of that height; it has two kids, which is enough for a root alone.
func rooted(high int) *plain {
	if high == 1 {
		return leafOf(0)
	}
	one, parts := grown(0, high-1)
	two, _ := grown(parts, high-1)
	return over(0, parts, one, two)
}

// each hands each leaf, or branch, of right trees of some heights on, by which one of them it is, and its root, of which nothing was changed.
func each(leaves bool, to func(root, p *plain, at int)) {
	for high := 1; high <= 4; high++ {
		for at := range rooted(high).all(leaves) {
			root := rooted(high)
			to(root, root.all(leaves)[at], at)
		}
	}
}

// facts fails, unless those of a tree of plain nodes are of all its nodes.
func facts(t *testing.T, name string, root *plain) {
	t.Helper()
	u := tree.Over(root.node())
	f := shape.Of(u)
	if leaves, branches := len(root.all(true)), len(root.all(false)); f.Leaves != leaves || f.Branches != branches || f.Entries != len(tree.All(u)) {
		t.Errorf("Of, %s: %+v, of %d leaves, %d branches, %d entries", name, f, leaves, branches, len(tree.All(u)))
	}
}

// wrong fails, unless a tree of plain nodes is told to be wrong, each time.
func wrong(t *testing.T, name string, root *plain) {
	t.Helper()
	u := tree.Over(root.node())
	for range 2 {
		if err := shape.Check(u); no(err) != api.ErrCorrupt {
			t.Errorf("Check, %s: %v", name, err)
		}
	}
	facts(t, name, root)
}

// sound fails, unless a tree of plain nodes is right.
func sound(t *testing.T, name string, root *plain) {
	t.Helper()
	u := tree.Over(root.node())
	if err := shape.Check(u); err != nil {
		t.Errorf("Check, %s: %v", name, err)
		return
	}
	right(t, u, tree.All(u))
	facts(t, name, root)
}

// TestSound: SP1, trees of nodes that are as the words say are right, and have their facts.
func TestSound(t *testing.T) {
	for high, want := range []shape.Facts{{}, {3, 1, 1, 0, 0, 126}, {6, 2, 2, 1, 0, 252}, {24, 3, 8, 3, 0, 1008}, {96, 4, 32, 11, 0, 4032}, {384, 5, 128, 43, 0, 16128}} {
		if high == 0 {
			continue
		}
		root := rooted(high)
		sound(t, "a tree", root)
		if f := shape.Of(tree.Over(root.node())); f != want {
			t.Errorf("Of, height %d: %+v, not %+v", high, f, want)
		}
	}
	// A root need not have enough.
	sound(t, "one short cell", &plain{cells: []api.Entry{{Key: "a"}}})
	sound(t, "one short key between", &plain{kids: []*plain{leafOf(0), leafOf(1)}, between: []string{key(part, 6)}})
}

// TestNoCells: SP1, the empty tree has no nodes, so that no leaf is without cells, not even a root.
func TestNoCells(t *testing.T) {
	if err := shape.Check(tree.Over(tree.Node{})); no(err) != api.ErrCorrupt {
		t.Errorf("Check, of a root that is nothing: %v", err)
	}
	each(true, func(root, p *plain, at int) {
		p.cells = nil
		wrong(t, "a leaf without cells", root)
		// With keys, as a branch has, it has enough bytes, but cells it has not.
		p.between = []string{key(part*at+1, 40), key(part*at+2, 40), key(part*at+3, 40)}
		wrong(t, "a leaf with keys alone", root)
	})
}

// TestCells: SP1, a cell that may not be, or is not behind the one ahead, at each place of each leaf.
func TestCells(t *testing.T) {
	each(true, func(root, p *plain, _ int) {
		good := p.cells
		for at, e := range good {
			// Each has as many bytes as the leaf needs, so that nothing else is wrong.
			bad := []api.Entry{
				{Key: "", Value: strings.Repeat("y", 40)},
				{Key: e.Key + "x"},
				{Key: e.Key + strings.Repeat("x", 260)},
				{Key: e.Key, Value: strings.Repeat("y", 2049)},
				{Key: e.Key, Value: strings.Repeat("y", 1<<16)},
			}
			if at > 0 {
				bad = append(bad, good[at-1], api.Entry{Key: good[at-1].Key[:39], Value: "y"})
			}
			if at+1 < len(good) {
				bad = append(bad, good[at+1])
			}
			for _, other := range bad {
				p.cells = slices.Clone(good)
				p.cells[at] = other
				wrong(t, "a cell of "+strconv.Quote(other.Key)+", "+strconv.Itoa(len(other.Value))+" bytes", root)
			}
			for _, other := range []api.Entry{{Key: e.Key, Value: strings.Repeat("y", 2048)}, {Key: e.Key[:39], Value: "\x00"}, {Key: e.Key[:7], Value: strings.Repeat("\xff", 64)}} {
				p.cells = slices.Clone(good)
				p.cells[at] = other
				sound(t, "another cell", root)
			}
		}
	})
}

// TestBounds: SP1, a leaf's cells lie where the keys between say, be these of the branch above it, or of one above that.
func TestBounds(t *testing.T) {
	each(true, func(root, p *plain, at int) {
		good, last := p.cells, at+1 == len(root.all(true))
		try := func(place int, e api.Entry, ok bool) {
			p.cells = slices.Clone(good)
			p.cells[place] = e
			if ok {
				sound(t, "a cell of "+e.Key, root)
			} else {
				wrong(t, "a cell of "+e.Key, root)
			}
		}
		// The key between is not below itself, and what it begins with is.
		try(0, sized(part*at, 40, 0), true)
		try(0, sized(part*at, 39, 1), at == 0)
		try(0, sized(max(part*at-1, 0), 40, 0), at == 0)
		try(2, sized(part*(at+1), 39, 1), true)
		try(2, sized(part*(at+1), 40, 0), last)
		try(2, sized(part*(at+1)+1, 40, 0), last)
		// Whatever lies ahead, or behind: the first and the last one have no end there.
		try(0, api.Entry{Key: "\x00", Value: strings.Repeat("y", 40)}, at == 0)
		try(2, api.Entry{Key: "\xff", Value: strings.Repeat("y", 40)}, last)
	})
}

// TestBetween: SP1, a key between may not be, does not ascend, or has something ahead that is not below it, or something behind that is.
func TestBetween(t *testing.T) {
	each(false, func(root, p *plain, _ int) {
		good := p.between
		for at, b := range good {
			try := func(b string, ok bool) {
				p.between = slices.Clone(good)
				p.between[at] = b
				if ok {
					sound(t, "a key between, "+strconv.Quote(b), root)
				} else {
					wrong(t, "a key between, "+strconv.Quote(b), root)
				}
			}
			ahead, behind := p.kids[at].all(true), p.kids[at+1].all(true)
			last, first := ahead[len(ahead)-1].cells[2].Key, behind[0].cells[0].Key
			try(b, true)
			try(first, true)
			try(first+"\x00", false)
			try(last[:39]+"y", true)
			try(last, false)
			try(last[:39], false)
			try("", false)
			try(b+"x", false)
			try(b+strings.Repeat("x", 160), false)
			try("\x00", false)
			try("\xff", false)
			if at > 0 {
				try(good[at-1], false)
			}
			if at+1 < len(good) {
				try(good[at+1], false)
			}
			p.between = good
		}
	})
}

// TestCounts: SP1, a branch has at least one key, and one kid more than keys.
func TestCounts(t *testing.T) {
	z := "z" // behind all keys
	for high := 2; high <= 4; high++ {
		three, _ := grown(1000, high-1)
		for name, p := range map[string]*plain{
			"one kid, no keys":    {kids: rooted(high).kids[:1]},
			"two kids, no keys":   {kids: rooted(high).kids},
			"one kid, one key":    {kids: rooted(high).kids[:1], between: rooted(high).between},
			"one kid, two keys":   {kids: rooted(high).kids[:1], between: append(rooted(high).between, z)},
			"two kids, two keys":  {kids: rooted(high).kids, between: append(rooted(high).between, z)},
			"three kids, one key": {kids: append(rooted(high).kids, three), between: rooted(high).between},
		} {
			wrong(t, name, p)
		}
		sound(t, "three kids, two keys", &plain{kids: append(rooted(high).kids, three), between: append(rooted(high).between, key(1000*part, 40))})
	}
	each(false, func(root, p *plain, _ int) {
		kids, between := p.kids, p.between
		p.kids = kids[:len(kids)-1]
		wrong(t, "a kid less", root)
		p.kids, p.between = kids, between[1:]
		wrong(t, "a key less", root)
		p.between = nil
		wrong(t, "no keys", root)
	})
}

// TestDeep: SP1, all leaves stand as deep, wherever one stands that does not.
func TestDeep(t *testing.T) {
	each(true, func(root, p *plain, at int) {
		var kids []*plain
		for i := range 4 {
			from := part*at + 10 + 20*i
			kids = append(kids, &plain{cells: []api.Entry{sized(from+1, 40, 0), sized(from+2, 40, 0), sized(from+3, 40, 0)}})
		}
		deep := root.kids != nil
		p.cells, p.kids, p.between = nil, kids, []string{key(part*at+30, 40), key(part*at+50, 40), key(part*at+70, 40)}
		if deep {
			wrong(t, "a leaf that stands deeper", root)
		} else {
			sound(t, "four leaves", root)
		}
	})
	each(false, func(root, p *plain, _ int) {
		above := root != p
		*p = *p.all(true)[0]
		if above {
			wrong(t, "a leaf that stands higher", root)
		} else {
			sound(t, "one leaf", root)
		}
	})
}

// leafSized is the leaf of a part with just so many bytes.
func leafSized(at, size int) *plain {
	p := &plain{}
	for left := size - 1; left > 0; {
		n := min(left, 106)
		if left-n > 0 && left-n < 8 {
			n -= 8
		}
		long := min(40, n-2)
		p.cells = append(p.cells, sized(part*at+1+len(p.cells), long, n-2-long))
		left -= n
	}
	return p
}

// branchSized is a branch over leaves with just so many bytes.
func branchSized(at, size int) *plain {
	p := &plain{kids: []*plain{leafOf(at)}}
	for left := size - 2; left > 0; {
		n := min(left, 43)
		if left-n > 0 && left-n < 9 {
			n -= 9
		}
		next := at + len(p.kids)
		p.kids, p.between = append(p.kids, leafOf(next)), append(p.between, key(part*next, n-3))
		left -= n
	}
	return p
}

// TestLeafSizes: SP1, each leaf but a root has enough bytes, and all fit, at each size there may be, and about it.
func TestLeafSizes(t *testing.T) {
	for size := 9; size <= 520; size++ {
		p := leafSized(0, size)
		if got := p.node().Size(); got != size {
			t.Fatalf("a leaf of %d bytes, not %d", got, size)
		}
		if size <= 504 {
			sound(t, "a root of "+strconv.Itoa(size), p)
		} else {
			wrong(t, "a root of "+strconv.Itoa(size), p)
		}
	}
	for _, size := range []int{9, 64, 124, 125, 126, 127, 128, 252, 503, 504, 505, 506, 631, 1009} {
		each(true, func(root, p *plain, at int) {
			if root == p {
				return
			}
			*p = *leafSized(at, size)
			if size >= 126 && size <= 504 {
				sound(t, "a leaf of "+strconv.Itoa(size), root)
			} else {
				wrong(t, "a leaf of "+strconv.Itoa(size), root)
			}
		})
	}
}

// TestBranchSizes: SP1, and so has each branch.
func TestBranchSizes(t *testing.T) {
	for size := 11; size <= 520; size++ {
		p := branchSized(0, size)
		if got := p.node().Size(); got != size {
			t.Fatalf("a branch of %d bytes, not %d", got, size)
		}
		if size <= 504 {
			sound(t, "a root of "+strconv.Itoa(size), p)
		} else {
			wrong(t, "a root of "+strconv.Itoa(size), p)
		}
		for place := range 3 {
			var kids []*plain
			for i := range 3 {
				kid, _ := grown(50*i, 2)
				kids = append(kids, kid)
			}
			kids[place] = branchSized(50*place, size)
			if size >= 126 && size <= 504 {
				sound(t, "a branch of "+strconv.Itoa(size), over(0, 50, kids...))
			} else {
				wrong(t, "a branch of "+strconv.Itoa(size), over(0, 50, kids...))
			}
		}
	}
}

// TestThinnest: SP3, trees whose nodes have no byte more than enough take no more pages than Most.
func TestThinnest(t *testing.T) {
	for _, cells := range []int{2, 3} {
		for leaves := 1; leaves <= 4096/cells; leaves += 1 + leaves/8 {
			var row []*plain
			for at := range leaves {
				p := &plain{}
				for i := range cells {
					p.cells = append(p.cells, sized(part*at+1+i, 40, 20*(3-cells)))
				}
				p.cells[1].Key = p.cells[1].Key[:39]
				p.cells[1].Value += strings.Repeat("y", 2*(3-cells))
				row = append(row, p)
			}
			root := piled(row)
			f := right(t, tree.Over(root.node()), tree.All(tree.Over(root.node())))
			if f.Leaves != leaves || f.Entries != cells*leaves || f.Bytes != 125*leaves {
				t.Errorf("Of, %d leaves of 126 bytes: %+v", leaves, f)
			}
		}
	}
}

// piled is the root over a row of nodes, with branches of four kids, and at the end some more, of 126 bytes or little more.
func piled(row []*plain) *plain {
	for len(row) > 1 {
		var up []*plain
		for len(row) > 0 {
			n := min(len(row), 4)
			if len(row)-n < 4 {
				n = len(row)
			}
			p := &plain{kids: row[:n]}
			for i, kid := range row[1:n] {
				first := kid.all(true)[0].cells[0].Key
				if i == 0 {
					first = first[:35]
				}
				p.between = append(p.between, first)
			}
			up, row = append(up, p), row[n:]
		}
		row = up
	}
	return row[0]
}
