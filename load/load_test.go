package load_test

import (
	"bytes"
	"errors"
	"math"
	"slices"
	"strings"
	"testing"

	"warren/api"
	"warren/bitset"
	"warren/load"
	"warren/plan"
	"warren/shape"
	"warren/tree"
)

// copied are pages that share nothing with those handed in.
func copied(pages [][]byte) [][]byte {
	l := slices.Clone(pages)
	for i := range l {
		l[i] = slices.Clone(l[i])
	}
	return l
}

// same tells whether pages are the same, byte by byte.
func same(a, b [][]byte) bool { return slices.EqualFunc(a, b, bytes.Equal) }

// no is the number that an error carries; 0: it is none.
func no(err error) api.Errno {
	var no api.Errno
	if err != nil && !errors.As(err, &no) {
		return -1
	}
	return no
}

// refused fails, unless there is that error, beside which there is no tree, and the pages stay as they were.
func refused(t *testing.T, name string, pages [][]byte, root, entries int, want api.Errno) {
	t.Helper()
	was := copied(pages)
	u, err := load.Load(pages, root, entries)
	if no(err) != want || u != (tree.Tree{}) {
		t.Errorf("%s: Load, %d pages, root %d, %d entries: %d entries, %v, not %v", name, len(pages), root, entries, tree.Len(u), err, want)
	}
	if !same(pages, was) {
		t.Errorf("%s: Load changes pages", name)
	}
}

// broken fails, unless from a root on no tree lies there, however many entries it should have.
func broken(t *testing.T, name string, pages [][]byte, root, entries int) {
	t.Helper()
	if _, ok := read(pages, root); ok {
		t.Errorf("%s: from page %d on a tree lies there", name, root)
	}
	for _, n := range []int{entries - 1, entries, entries + 1} {
		if n >= 0 && n <= 4096 {
			refused(t, name, pages, root, n, api.ErrCorrupt)
		}
	}
}

// loaded is the tree of those entries that lies there from a root on. It fails, unless that is told, and all is where it lies.
func loaded(t *testing.T, name string, pages [][]byte, root int, want []api.Entry) tree.Tree {
	t.Helper()
	r, ok := read(pages, root)
	if !ok || !slices.Equal(r.list, want) {
		t.Fatalf("%s: from page %d on no such tree lies there", name, root)
	}
	given := copied(pages)
	u, err := load.Load(given, root, len(want))
	if err != nil || !same(given, pages) {
		t.Fatalf("%s: Load, %d pages, root %d, %d entries: %v", name, len(pages), root, len(want), err)
	}
	// What is written over the pages later on is nothing to the tree.
	for _, b := range given {
		copy(b, bytes.Repeat([]byte("?"), len(b)))
	}
	clear(given)
	if got := tree.All(u); !slices.Equal(got, want) || tree.Len(u) != len(want) {
		t.Fatalf("%s: Load: %.200q, not %.200q", name, got, want)
	}
	if err := shape.Check(u); err != nil || tree.Height(u) != r.deep {
		t.Fatalf("%s: Load, height %d, not %d: %v", name, tree.Height(u), r.deep, err)
	}
	if plan.Root(u) != root || plan.Need(u) != 0 || plan.Used(u) != r.used || told(u) != r.text.String() {
		t.Fatalf("%s: Load, root %d: it lies at %s, not at %s, and needs %d", name, root, told(u), r.text.String(), plan.Need(u))
	}
	for _, n := range []int{len(want) - 1, len(want) + 1} {
		if n >= 0 && n <= 4096 {
			refused(t, name, pages, root, n, api.ErrCorrupt)
		}
	}
	return u
}

// sound fails, unless a plain node is loaded from where it was laid.
func sound(t *testing.T, name string, p *plain) {
	t.Helper()
	d, root := laid(p)
	loaded(t, name, d, root, p.entries())
}

// wrong fails, unless a plain node, where it was laid, is no tree.
func wrong(t *testing.T, name string, p *plain) {
	t.Helper()
	d, root := laid(p)
	broken(t, name, d, root, len(p.entries()))
}

// numbers are some that are no page, or none that there is.
var numbers = []int{math.MinInt, math.MinInt32, -1024, -2, -1, 0, 1, 2, 3, 7, 8, 9, 1022, 1023, 1024, 1025, 1026, 65535, 65538, 1<<32 + 2, math.MaxInt}

// TestEmpty: LD1, no entries, root 0: the empty tree, whatever the pages are; another root has none, and other entries have no root.
func TestEmpty(t *testing.T) {
	one, _ := laid(leafOf(0))
	for _, pages := range [][][]byte{nil, {}, {nil}, {{1}, nil, {2}}, make([][]byte, 1023), make([][]byte, 1024), one, newDisk()} {
		u := loaded(t, "nothing", pages, 0, nil)
		if u != (tree.Tree{}) || tree.Height(u) != 0 {
			t.Errorf("Load, of no entries: %d, height %d", tree.Len(u), tree.Height(u))
		}
		for _, n := range []int{1, 2, 3, 4, 4095, 4096} {
			refused(t, "entries without a root", pages, 0, n, api.ErrCorrupt)
		}
		for _, root := range numbers {
			if root != 0 {
				refused(t, "a root without entries", pages, root, 0, api.ErrCorrupt)
			}
		}
	}
}

// TestArg: LD1, too many pages, or a number of entries that no tree has, be it all right else, or all wrong.
func TestArg(t *testing.T) {
	d, root := laid(rooted(2))
	n := len(rooted(2).entries())
	more := func(pages int) [][]byte { return append(slices.Clone(d), make([][]byte, pages-len(d))...) }
	for _, pages := range []int{len(d), 512, 1023, 1024} {
		loaded(t, "pages that are not used", more(pages), root, rooted(2).entries())
	}
	for _, pages := range []int{1025, 1026, 2048, 4096, 1 << 16} {
		for _, entries := range []int{0, 1, n, -1, 4097} {
			for _, at := range []int{0, 1, root, 1024, -1} {
				refused(t, "too many pages", more(pages), at, entries, api.ErrArg)
			}
		}
	}
	for _, entries := range []int{math.MinInt, math.MinInt32, -4096, -n, -1, 4097, 4098, 8192, 65536 + n, 1<<32 + n, 1 << 32, math.MaxInt} {
		for _, at := range numbers {
			refused(t, "no number of entries", d, at, entries, api.ErrArg)
			refused(t, "no number of entries, and nothing else", nil, at, entries, api.ErrArg)
		}
		refused(t, "no number of entries", d, root, entries, api.ErrArg)
	}
}

// TestWritten: LD1, a leaf, written out.
func TestWritten(t *testing.T) {
	page := sealed(1, []byte{2, 1, 'a', 2, 'x', 'y', 1, 'b', 0})
	for _, at := range []int{2, 3, 63, 64, 255, 256, 1022, 1023} {
		pages := make([][]byte, at+1)
		pages[at] = page
		want := []api.Entry{{Key: "a", Value: "xy"}, {Key: "b"}}
		u := loaded(t, "a leaf", pages, at, want)
		if v, ok := tree.Get(u, "a"); v != "xy" || !ok || tree.Height(u) != 1 || plan.Root(u) != at || plan.Used(u) != bitset.With(bitset.Set{}, at) {
			t.Errorf("on page %d: %q, %v, root %d", at, v, ok, plan.Root(u))
		}
		for _, other := range numbers {
			if other != at {
				refused(t, "another root", pages, other, 2, api.ErrCorrupt)
			}
		}
		refused(t, "without its page", pages[:at], at, 2, api.ErrCorrupt)
	}
	// The pages 0 and 1 are of the heads, whatever lies there.
	for at := range 2 {
		refused(t, "a head's page", [][]byte{page, page, page, page}, at, 2, api.ErrCorrupt)
	}
}

// TestWrittenLong: LD1, a branch, two leaves and long values, written out.
func TestWrittenLong(t *testing.T) {
	w, x, y, z := strings.Repeat("w", 64), strings.Repeat("x", 64), strings.Repeat("y", 65), strings.Repeat("z", 502)
	leaf := slices.Concat([]byte{3, 1, 'a', 64}, []byte(w), []byte{1, 'b', 64}, []byte(x), []byte{1, 'c', 65, 0, 6})
	more := slices.Concat([]byte{3, 1, 'd', 64}, []byte(w), []byte{2, 'd', 'd', 0xf7, 3, 0, 4, 1, 'e', 64}, []byte(x))
	pages := [][]byte{
		3: sealed(1, leaf),
		4: sealed(3, append([]byte{0, 9}, z...)),
		5: sealed(2, []byte{0, 3, 1, 'd', 0, 8}),
		6: sealed(3, append([]byte{0, 0}, y...)),
		8: sealed(1, more),
		9: sealed(3, []byte{0, 0, '!'}),
	}
	want := []api.Entry{{Key: "a", Value: w}, {Key: "b", Value: x}, {Key: "c", Value: y}, {Key: "d", Value: w}, {Key: "dd", Value: z + "!"}, {Key: "e", Value: x}}
	u := loaded(t, "two leaves", pages, 5, want)
	root, _ := tree.Root(u)
	kids := root.Kids()
	if root.Page() != 5 || len(kids) != 2 || kids[0].Page() != 3 || kids[1].Page() != 8 || !slices.Equal(root.Keys(), []string{"d"}) {
		t.Fatalf("a tree lies at %s", told(u))
	}
	if a, b := kids[0].Laid()[2], kids[1].Laid()[1]; !slices.Equal(a.Chain, []int{6}) || !slices.Equal(b.Chain, []int{4, 9}) {
		t.Errorf("long values lie at %v, and at %v", a.Chain, b.Chain)
	}
	loaded(t, "one leaf of them", pages, 3, want[:3])
	loaded(t, "the other leaf", pages, 8, want[3:])
	refused(t, "too few pages", pages[:9], 5, 6, api.ErrCorrupt)
}

// TestEntries: LD1, it has just so many entries as it is said to have.
func TestEntries(t *testing.T) {
	for high := 1; high <= 4; high++ {
		p := rooted(high)
		d, root := laid(p)
		l := p.entries()
		loaded(t, "a tree", d, root, l)
		for n := range 4097 {
			if n != len(l) && (n < 2*len(l) || n%97 == 0 || n > 4090) {
				refused(t, "another number of entries", d, root, n, api.ErrCorrupt)
			}
		}
	}
}

// wide is a plain tree of two nodes' height with so many short cells, a hundred a leaf.
func wide(cells int) *plain {
	p := &plain{}
	for at := range cells {
		key := string([]byte{byte(at >> 8), byte(at)})
		if at%100 == 0 {
			p.kids = append(p.kids, &plain{})
		}
		if at%100 == 0 && at > 0 {
			p.between = append(p.between, key)
		}
		leaf := p.kids[len(p.kids)-1]
		leaf.cells = append(leaf.cells, api.Entry{Key: key})
	}
	return p
}

// TestMost: LD1, as many entries as a tree may have, and more.
func TestMost(t *testing.T) {
	sound(t, "one entry less", wide(4095))
	sound(t, "as many entries as may be", wide(4096))
	for _, cells := range []int{4097, 4140, 8192, 8196} {
		d, root := laid(wide(cells))
		if r, ok := read(d, root); !ok || len(r.list) != cells {
			t.Fatalf("of %d cells, %d lie there", cells, len(r.list))
		}
		for _, n := range []int{0, 1, 100, 4095, 4096} {
			refused(t, "more entries than may be", d, root, n, api.ErrCorrupt)
		}
		refused(t, "more entries than may be", d, root, cells, api.ErrArg)
	}
}

// TestRoots: LD1, from each node on a tree lies there, as a root alone need not have enough; from each other page on there is none.
func TestRoots(t *testing.T) {
	for high := 1; high <= 4; high++ {
		p := rooted(high)
		d, root := laid(p)
		loaded(t, "a tree", d, root, p.entries())
		nodes := 0
		for at := range len(d) + 3 {
			r, ok := read(d, at)
			switch {
			case at == 0:
			case ok:
				nodes++
				loaded(t, "from a node on", d, at, r.list)
			default:
				broken(t, "from another page on", d, at, 3)
				broken(t, "from another page on", d, at, len(p.entries()))
			}
		}
		if want := len(p.all(true)) + len(p.all(false)); nodes != want {
			t.Errorf("of %d nodes %d are trees", want, nodes)
		}
	}
}
