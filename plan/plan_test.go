package plan_test

import (
	"bytes"
	"errors"
	"maps"
	"slices"
	"strings"
	"testing"

	"warren/api"
	"warren/bitset"
	"warren/plan"
	"warren/shape"
	"warren/tree"
)

// all are all pages of a device.
var all = bitset.Below(1024)

// set is that of some numbers.
func set(numbers ...int) bitset.Set {
	var s bitset.Set
	for _, n := range numbers {
		s = bitset.With(s, n)
	}
	return s
}

// of is a tree of entries, of which none is wrong.
func of(t *testing.T, l []api.Entry) tree.Tree {
	t.Helper()
	u, err := tree.Of(l)
	if err != nil {
		t.Fatalf("Of, %d entries: %v", len(l), err)
	}
	return u
}

// put is a tree with an entry that may be put.
func put(t *testing.T, u tree.Tree, key, value string) tree.Tree {
	t.Helper()
	v, err := tree.Put(u, key, value)
	if err != nil {
		t.Fatalf("Put(%q, %d bytes): %v", key, len(value), err)
	}
	return v
}

// pairs are entries, a key and a value each.
func pairs(words ...string) []api.Entry {
	var l []api.Entry
	for i := 0; i < len(words); i += 2 {
		l = append(l, api.Entry{Key: words[i], Value: words[i+1]})
	}
	return l
}

// row are so many entries whose keys ascend, with keys of so many bytes, and values, which differ.
func row(n, key, value int) []api.Entry {
	var l []api.Entry
	for i := range n {
		head := string([]byte{byte(i >> 8), byte(i)})
		e := api.Entry{Key: head + strings.Repeat("k", key-2), Value: strings.Repeat(head, value/2+1)[:value]}
		l = append(l, e)
	}
	return l
}

// pagesOf are how many pages a long value has; 0: it is none.
func pagesOf(value int) int {
	n := 0
	for ; value > 64 || n > 0 && value > 0; value -= 502 {
		n++
	}
	return n
}

// state is what is told of a tree.
type state struct {
	need, root int
	used       bitset.Set
}

// stateOf is that of a tree; it fails, unless each node and each piece lies on a page, or needs one.
func stateOf(t *testing.T, u tree.Tree) state {
	t.Helper()
	s := state{plan.Need(u), plan.Root(u), plan.Used(u)}
	if n := shape.Pages(shape.Of(u)); s.need+bitset.Count(s.used) != n {
		t.Fatalf("of %d pages, %d are used, and %d are needed", n, bitset.Count(s.used), s.need)
	}
	if (s.root != 0) != (s.need == 0 && tree.Len(u) > 0) || s.root != 0 && !bitset.Has(s.used, s.root) {
		t.Fatalf("%d pages are needed, %v are used, and the root lies at %d", s.need, bitset.All(s.used), s.root)
	}
	return s
}

// refused fails, unless there are too few free pages for a tree, beside which nothing is told.
func refused(t *testing.T, u tree.Tree, free bitset.Set) {
	t.Helper()
	was := stateOf(t, u)
	v, writes, err := plan.Lay(u, free)
	var no api.Errno
	if !errors.As(err, &no) || no != api.ErrQuota || len(writes) != 0 || v != (tree.Tree{}) {
		t.Fatalf("Lay, %d pages, on %v: %d entries, %d writes, %v", was.need, bitset.All(free), tree.Len(v), len(writes), err)
	}
	if stateOf(t, u) != was {
		t.Fatalf("what was not laid is another one")
	}
}

// written are the pages that are to be written, of which each was free, and none is told twice; and they are, on a disk.
func written(t *testing.T, d disk, writes []plan.Write, free bitset.Set) bitset.Set {
	t.Helper()
	var s bitset.Set
	for _, w := range writes {
		if w.Page < 2 || !bitset.Has(free, w.Page) || bitset.Has(s, w.Page) || len(w.Bytes) != 512 {
			t.Fatalf("page %d is to be written, with %d bytes, behind %v, while %v are free", w.Page, len(w.Bytes), bitset.All(s), bitset.All(free))
		}
		s = bitset.With(s, w.Page)
		d[w.Page] = w.Bytes
	}
	return s
}

// rests fails, unless nothing is needed for a tree, and nothing is to be written, whatever is free.
func rests(t *testing.T, u tree.Tree) {
	t.Helper()
	was := stateOf(t, u)
	for _, free := range []bitset.Set{{}, all, was.used, bitset.Less(all, was.used)} {
		v, writes, err := plan.Lay(u, free)
		if err != nil || len(writes) != 0 || stateOf(t, v) != was || was.need != 0 || !slices.Equal(tree.All(v), tree.All(u)) {
			t.Fatalf("Lay, of what lies: %d writes, %d pages are needed, %v", len(writes), was.need, err)
		}
	}
}

// laid is a tree on free pages, for which there is room; they are written on a disk. It fails, unless all is as the words say.
func laid(t *testing.T, d disk, u tree.Tree, free bitset.Set) tree.Tree {
	t.Helper()
	was, l := stateOf(t, u), tree.All(u)
	v, writes, err := plan.Lay(u, free)
	if err != nil {
		t.Fatalf("Lay, %d pages, on %d free ones: %v", was.need, bitset.Count(free), err)
	}
	on := written(t, d, writes, free)
	is := stateOf(t, v)
	if len(writes) != was.need || is.need != 0 || bitset.Both(on, was.used) != (bitset.Set{}) || is.used != bitset.Either(on, was.used) {
		t.Fatalf("Lay, of what needs %d and uses %v: %v are written, and %v used", was.need, bitset.All(was.used), bitset.All(on), bitset.All(is.used))
	}
	if !slices.Equal(tree.All(v), l) || tree.Len(v) != len(l) || tree.Height(v) != tree.Height(u) || shape.Check(v) != nil {
		t.Fatalf("Lay, of %d entries: %d others", len(l), tree.Len(v))
	}
	if stateOf(t, u) != was || !slices.Equal(tree.All(u), l) {
		t.Fatalf("what was laid is another one")
	}
	rests(t, v)
	read(t, d, is.root, l, is.used, tree.Height(v))
	return v
}

// TestWritten: PL1, PL2, one short entry: one page, written out.
func TestWritten(t *testing.T) {
	want := sealed(1, []byte{1, 1, 'a', 2, 'x', 'y'})
	u := of(t, pairs("a", "xy"))
	if s := stateOf(t, u); s != (state{need: 1}) {
		t.Errorf("ahead of it: %v", s)
	}
	for _, page := range []int{2, 3, 63, 64, 1022, 1023} {
		for _, free := range []bitset.Set{set(page), set(0, page), set(0, 1, page)} {
			d := disk{}
			v := laid(t, d, u, free)
			if plan.Root(v) != page || plan.Used(v) != set(page) || len(d) != 1 || !bytes.Equal(d[page], want) {
				t.Errorf("on page %d: root %d, %x, not %x", page, plan.Root(v), d[page], want)
			}
		}
	}
	laid(t, disk{}, u, all)
	laid(t, disk{}, u, bitset.Below(9))
	for _, free := range []bitset.Set{{}, set(0), set(1), set(0, 1)} {
		refused(t, u, free)
	}
}

// TestWrittenLong: PL1, a long value, written out.
func TestWrittenLong(t *testing.T) {
	u := of(t, pairs("a", strings.Repeat("x", 502)+"y", "b", "z"))
	for _, free := range []bitset.Set{set(2, 3, 4), set(2, 300, 1023), set(0, 1, 9, 400, 401)} {
		d := disk{}
		v := laid(t, d, u, free)
		root := plan.Root(v)
		first := int(d[root][9])<<8 + int(d[root][10])
		next := int(d[first][4])<<8 + int(d[first][5])
		for page, want := range map[int][]byte{
			root:  sealed(1, []byte{2, 1, 'a', 0xf7, 3, byte(first >> 8), byte(first), 1, 'b', 1, 'z'}),
			first: sealed(3, append([]byte{byte(next >> 8), byte(next)}, strings.Repeat("x", 502)...)),
			next:  sealed(3, []byte{0, 0, 'y'}),
		} {
			if !bytes.Equal(d[page], want) {
				t.Errorf("page %d: %x, not %x", page, d[page], want)
			}
		}
		if len(d) != 3 || plan.Used(v) != set(root, first, next) {
			t.Errorf("%d pages are written, %v used", len(d), bitset.All(plan.Used(v)))
		}
	}
	for _, free := range []bitset.Set{set(2, 3), set(0, 1, 2), set(0, 1, 1022, 1023)} {
		refused(t, u, free)
	}
}

// TestWrittenBranch: PL1, a branch, written out.
func TestWrittenBranch(t *testing.T) {
	u := of(t, row(5, 40, 64))
	d := disk{}
	v := laid(t, d, u, set(7, 300, 1000))
	root, _ := tree.Root(u)
	b, kids := d[plan.Root(v)], maps.Clone(d)
	delete(kids, plan.Root(v))
	pages := slices.Sorted(maps.Keys(kids))
	if len(pages) != 2 || len(root.Keys()) != 1 {
		t.Fatalf("beside the root %v are written, with %q between", pages, root.Keys())
	}
	if !slices.ContainsFunc([][2]int{{pages[0], pages[1]}, {pages[1], pages[0]}}, func(at [2]int) bool {
		load := append([]byte{byte(at[0] >> 8), byte(at[0]), byte(len(root.Keys()[0]))}, root.Keys()[0]...)
		return bytes.Equal(b, sealed(2, append(load, byte(at[1]>>8), byte(at[1]))))
	}) {
		t.Errorf("a branch over %v, with %q between: %x", pages, root.Keys(), b)
	}
}

// TestEmpty: PL1, PL2, the empty tree lies nowhere, and needs nothing, even if it was one that lay somewhere.
func TestEmpty(t *testing.T) {
	gone := laid(t, disk{}, of(t, row(40, 8, 100)), all)
	for tree.Len(gone) > 0 {
		gone, _ = tree.Delete(gone, tree.All(gone)[0].Key)
	}
	for _, u := range []tree.Tree{{}, of(t, nil), gone} {
		if s := stateOf(t, u); s != (state{}) {
			t.Errorf("of the empty tree: %v", s)
		}
		for _, free := range []bitset.Set{{}, set(0, 1), set(2), all} {
			d := disk{}
			if v := laid(t, d, u, free); len(d) != 0 || tree.Len(v) != 0 || plan.Root(v) != 0 {
				t.Errorf("the empty tree lies on %d pages", len(d))
			}
		}
	}
}

// TestValues: PL1, PL2, values of each length about an edge: whether they lie in their leaf, on how many pages, and what they are.
func TestValues(t *testing.T) {
	for _, edge := range []int{0, 64, 127, 502, 504, 1004, 1008, 1506, 1512, 2008, 2016, 2048} {
		for long := max(edge-2, 0); long <= min(edge+2, 2048); long++ {
			e := row(300, 7, long)[259]
			u := of(t, []api.Entry{e})
			if n := plan.Need(u); n != 1+pagesOf(long) {
				t.Errorf("a value of %d bytes: %d pages are needed", long, n)
			}
			laid(t, disk{}, u, all)
			laid(t, disk{}, u, bitset.Less(all, bitset.Below(1024-1-pagesOf(long))))
			refused(t, u, bitset.Less(all, bitset.Below(1024-pagesOf(long))))
		}
	}
}

// TestQuota: PL1, trees of many sizes, with one page less than they need, with just as many, and with more, wherever these are.
func TestQuota(t *testing.T) {
	for _, sizes := range [][2]int{{2, 0}, {40, 0}, {40, 64}, {4, 65}, {6, 700}, {17, 2048}} {
		for _, n := range []int{1, 2, 3, 5, 12, 40, 100, 160} {
			u := of(t, row(n, sizes[0], sizes[1]))
			need := plan.Need(u)
			for _, from := range []int{2, 5, 700, 1022} {
				// 5 has no part with 1,022, so that each page from 2 on comes once.
				free := set(0, 1)
				for i := range need {
					last := 2 + (from-2+5*i)%1022
					if i == need-1 {
						refused(t, u, free)
					}
					free = bitset.With(free, last)
				}
				laid(t, disk{}, u, free)
			}
			laid(t, disk{}, u, all)
		}
	}
}

// TestFull: PL1, trees that need just all pages, and more.
func TestFull(t *testing.T) {
	u := of(t, row(250, 40, 128))
	// A long value's leaf tells it in as many bytes, however long it is, so that one page comes at a time.
	for _, long := range []int{503, 1005, 1507} {
		for _, e := range tree.All(u) {
			if plan.Need(u) < 1022 {
				u = put(t, u, e.Key, strings.Repeat("z", long))
			}
		}
	}
	if plan.Need(u) != 1022 {
		t.Fatalf("%d pages are needed", plan.Need(u))
	}
	laid(t, disk{}, u, all)
	laid(t, disk{}, u, bitset.Less(all, bitset.Below(2)))
	for _, page := range []int{2, 3, 64, 511, 1022, 1023} {
		refused(t, u, bitset.Without(all, page))
	}
	refused(t, put(t, u, "z", strings.Repeat("z", 65)), all)
	refused(t, of(t, row(4096, 40, 64)), all)
	refused(t, of(t, row(1100, 2, 65)), all)
	laid(t, disk{}, of(t, row(4096, 4, 0)), all)
}
