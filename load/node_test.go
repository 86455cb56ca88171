package load_test

import (
	"slices"
	"strconv"
	"strings"
	"testing"

	"warren/api"
)

// TestSound: LD1, trees of nodes that are as the words say are loaded.
func TestSound(t *testing.T) {
	for high := 1; high <= 5; high++ {
		sound(t, "a tree", rooted(high))
	}
	// A root need not have enough.
	sound(t, "one short cell", &plain{cells: []api.Entry{{Key: "a"}}})
	sound(t, "one short key between", &plain{kids: []*plain{leafOf(0), leafOf(1)}, between: []string{key(part, 6)}})
}

// TestNoCells: LD1, no leaf is without cells, not even a root.
func TestNoCells(t *testing.T) {
	each(true, func(root, p *plain, _ int) {
		p.cells = nil
		wrong(t, "a leaf without cells", root)
	})
	d := append(newDisk(), sealed(1, []byte{0}), sealed(1, nil))
	for at := range 4 {
		broken(t, "a root without cells", d, at+2, 0)
	}
}

// TestCells: LD1, a cell that may not be, or is not behind the one ahead, at each place of each leaf.
func TestCells(t *testing.T) {
	each(true, func(root, p *plain, _ int) {
		good := p.cells
		for at, e := range good {
			// Each has as many bytes as the leaf needs, so that nothing else is wrong.
			bad := []api.Entry{
				{Key: "", Value: strings.Repeat("y", 40)},
				{Key: e.Key + "x"},
				{Key: e.Key + strings.Repeat("x", 160)},
				{Key: e.Key, Value: strings.Repeat("y", 2049)},
				{Key: e.Key, Value: strings.Repeat("y", 4096)},
			}
			if at > 0 {
				bad = append(bad, good[at-1], api.Entry{Key: good[at-1].Key[:39], Value: "y"})
			}
			if at+1 < len(good) {
				bad = append(bad, good[at+1])
			}
			for _, other := range bad {
				p.cells = slices.Clone(good)
				p.cells[at] = other
				wrong(t, "a cell of "+strconv.Quote(other.Key)+", "+strconv.Itoa(len(other.Value))+" bytes", root)
			}
			for _, other := range []api.Entry{{Key: e.Key, Value: strings.Repeat("y", 2048)}, {Key: e.Key[:39], Value: "\x00"}, {Key: e.Key[:7], Value: strings.Repeat("\xff", 64)}} {
				p.cells = slices.Clone(good)
				p.cells[at] = other
				sound(t, "another cell", root)
			}
		}
	})
}

// TestBounds: LD1, a leaf's keys lie where the keys between say, be these of the branch above it, or of one above that.
func TestBounds(t *testing.T) {
	each(true, func(root, p *plain, at int) {
		good, last := p.cells, at+1 == len(root.all(true))
		try := func(place int, e api.Entry, ok bool) {
			p.cells = slices.Clone(good)
			p.cells[place] = e
			if ok {
				sound(t, "a cell of "+e.Key, root)
			} else {
				wrong(t, "a cell of "+e.Key, root)
			}
		}
		// The key between is not below itself, and what it begins with is.
		try(0, sized(part*at, 40, 0), true)
		try(0, sized(part*at, 39, 1), at == 0)
		try(0, sized(max(part*at-1, 0), 40, 0), at == 0)
		try(2, sized(part*(at+1), 39, 1), true)
		try(2, sized(part*(at+1), 40, 0), last)
		try(2, sized(part*(at+1)+1, 40, 0), last)
		// Whatever lies ahead, or behind: the first and the last one have no end there.
		try(0, api.Entry{Key: "\x00", Value: strings.Repeat("y", 40)}, at == 0)
		try(2, api.Entry{Key: "\xff", Value: strings.Repeat("y", 40)}, last)
	})
}

// TestBetween: LD1, a key between may not be, does not ascend, or has something ahead that is not below it, or something behind that is.
func TestBetween(t *testing.T) {
	each(false, func(root, p *plain, _ int) {
		good := p.between
		for at, b := range good {
			try := func(b string, ok bool) {
				p.between = slices.Clone(good)
				p.between[at] = b
				if ok {
					sound(t, "a key between, "+strconv.Quote(b), root)
				} else {
					wrong(t, "a key between, "+strconv.Quote(b), root)
				}
			}
			ahead, behind := p.kids[at].all(true), p.kids[at+1].all(true)
			last, first := ahead[len(ahead)-1].cells[2].Key, behind[0].cells[0].Key
			try(b, true)
			try(first, true)
			try(first+"\x00", false)
			try(last[:39]+"y", true)
			try(last, false)
			try(last[:39], false)
			try("", false)
			try(b+"x", false)
			try(b+strings.Repeat("x", 160), false)
			try("\x00", false)
			try("\xff", false)
			if at > 0 {
				try(good[at-1], false)
			}
			if at+1 < len(good) {
				try(good[at+1], false)
			}
			p.between = good
		}
	})
}

// TestBetweenAbove: LD1, the keys of a branch lie within what the branches above it let be.
func TestBetweenAbove(t *testing.T) {
	for high := 3; high <= 4; high++ {
		for at, p := range rooted(high).all(false)[1:] {
			for place := range p.between {
				for above, b := range rooted(high).between {
					root := rooted(high)
					p := root.all(false)[at+1]
					p.between[place] = b
					wrong(t, "a key of the branch above, "+strconv.Itoa(above), root)
					p.between[place] = b[:39]
					wrong(t, "a key below that of the branch above", root)
				}
			}
		}
	}
}

// TestCounts: LD1, a branch has at least one key, and one kid more than keys.
func TestCounts(t *testing.T) {
	each(false, func(root, p *plain, _ int) {
		p.kids, p.between = p.kids[:1], nil
		wrong(t, "one kid, no keys", root)
	})
	for high := 2; high <= 4; high++ {
		three, _ := grown(1000, high-1)
		sound(t, "three kids, two keys", &plain{kids: append(rooted(high).kids, three), between: append(rooted(high).between, key(1000*part, 40))})
	}
}

// TestDeep: LD1, all leaves stand as deep, wherever one stands that does not.
func TestDeep(t *testing.T) {
	each(true, func(root, p *plain, at int) {
		var kids []*plain
		for i := range 4 {
			from := part*at + 10 + 20*i
			kids = append(kids, &plain{cells: []api.Entry{sized(from+1, 40, 0), sized(from+2, 40, 0), sized(from+3, 40, 0)}})
		}
		deep := root.kids != nil
		p.cells, p.kids, p.between = nil, kids, []string{key(part*at+30, 40), key(part*at+50, 40), key(part*at+70, 40)}
		if deep {
			wrong(t, "a leaf that stands deeper", root)
		} else {
			sound(t, "four leaves", root)
		}
	})
	each(false, func(root, p *plain, _ int) {
		above := root != p
		*p = *p.all(true)[0]
		if above {
			wrong(t, "a leaf that stands higher", root)
		} else {
			sound(t, "one leaf", root)
		}
	})
}

// leafSized is the leaf of a part with just so many bytes.
func leafSized(at, size int) *plain {
	p := &plain{}
	for left := size - 1; left > 0; {
		n := min(left, 106)
		if left-n > 0 && left-n < 8 {
			n -= 8
		}
		long := min(40, n-2)
		p.cells = append(p.cells, sized(part*at+1+len(p.cells), long, n-2-long))
		left -= n
	}
	return p
}

// branchSized is a branch over leaves with just so many bytes.
func branchSized(at, size int) *plain {
	p := &plain{kids: []*plain{leafOf(at)}}
	for left := size - 2; left > 0; {
		n := min(left, 43)
		if left-n > 0 && left-n < 9 {
			n -= 9
		}
		next := at + len(p.kids)
		p.kids, p.between = append(p.kids, leafOf(next)), append(p.between, key(part*next, n-3))
		left -= n
	}
	return p
}

// enough fails, unless a node of so many bytes below a root is loaded, if these are enough.
func enough(t *testing.T, size int, root *plain) {
	t.Helper()
	if size >= 126 {
		sound(t, "a node of "+strconv.Itoa(size), root)
	} else {
		wrong(t, "a node of "+strconv.Itoa(size), root)
	}
}

// TestLeafSizes: LD1, each leaf but a root has enough bytes, at each size there may be.
func TestLeafSizes(t *testing.T) {
	for size := 9; size <= 504; size++ {
		p := leafSized(0, size)
		d, root := laid(p)
		if got := len(loadOf(d[root])); got != size {
			t.Fatalf("a leaf of %d bytes, not %d", got, size)
		}
		sound(t, "a root of "+strconv.Itoa(size), p)
		for place := range 3 {
			kids := []*plain{leafOf(0), leafOf(1), leafOf(2)}
			kids[place] = leafSized(place, size)
			enough(t, size, over(0, 1, kids...))
		}
	}
	for _, size := range []int{9, 64, 124, 125, 126, 127, 128, 252, 503, 504} {
		each(true, func(root, p *plain, at int) {
			if root != p {
				*p = *leafSized(at, size)
				enough(t, size, root)
			}
		})
	}
}

// TestBranchSizes: LD1, and so has each branch.
func TestBranchSizes(t *testing.T) {
	for size := 11; size <= 504; size++ {
		p := branchSized(0, size)
		d, root := laid(p)
		if got := len(loadOf(d[root])); got != size {
			t.Fatalf("a branch of %d bytes, not %d", got, size)
		}
		sound(t, "a root of "+strconv.Itoa(size), p)
		// Far off the edge some are enough.
		if size > 150 && size < 490 && size%20 > 0 {
			continue
		}
		for place := range 3 {
			var kids []*plain
			for i := range 3 {
				kid, _ := grown(50*i, 2)
				kids = append(kids, kid)
			}
			kids[place] = branchSized(50*place, size)
			enough(t, size, over(0, 50, kids...))
		}
	}
}
