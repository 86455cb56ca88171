package shape_test

import (
	"errors"
	"slices"
	"strconv"
	"strings"
	"testing"

	"warren/api"
	"warren/shape"
	"warren/tree"
)

// key is one of so many bytes that begins with a number, by which such keys are in order.
func key(at, size int) string {
	digits := strconv.Itoa(100000 + at)
	return digits + strings.Repeat("x", size-len(digits))
}

// sized is an entry with such a key, and a value of so many bytes.
func sized(at, size, long int) api.Entry {
	return api.Entry{Key: key(at, size), Value: strings.Repeat("y", long)}
}

// row are so many entries with such keys and values.
func row(n, size, long int) []api.Entry {
	var l []api.Entry
	for at := range n {
		l = append(l, sized(at, size, long))
	}
	return l
}

// of is a tree of entries, of which none is wrong.
func of(t *testing.T, l []api.Entry) tree.Tree {
	t.Helper()
	u, err := tree.Of(l)
	if err != nil {
		t.Fatalf("Of, %d entries: %v", len(l), err)
	}
	return u
}

// bytes is what an entry's cell takes, as the words say.
func bytes(e api.Entry) int {
	switch {
	case len(e.Value) > 127:
		return 1 + len(e.Key) + 2 + 2
	case len(e.Value) > 64:
		return 1 + len(e.Key) + 1 + 2
	default:
		return 1 + len(e.Key) + 1 + len(e.Value)
	}
}

// pages are those of an entry's value, as the words say.
func pages(e api.Entry) int {
	n := 0
	for left := len(e.Value); left > 0 && len(e.Value) > 64; left -= 502 {
		n++
	}
	return n
}

// most is how many pages entries take at most, as the words say.
func most(l []api.Entry) int {
	if len(l) == 0 {
		return 0
	}
	all, long := 0, 0
	for _, e := range l {
		all, long = all+bytes(e), long+pages(e)
	}
	nodes := 1
	for ; all >= 126; all -= 126 {
		nodes++
	}
	return 2*nodes + long
}

// no is the number that an error carries; 0: it is none.
func no(err error) api.Errno {
	var no api.Errno
	if err != nil && !errors.As(err, &no) {
		return -1
	}
	return no
}

// right fails, unless a tree is right, has those entries, and its facts are those of its entries and its nodes; they are answered.
func right(t *testing.T, u tree.Tree, l []api.Entry) shape.Facts {
	t.Helper()
	if err := shape.Check(u); err != nil {
		t.Fatalf("Check, of %d entries: %v", len(l), err)
	}
	if got := tree.All(u); !slices.Equal(got, l) {
		t.Fatalf("All: %.200q, not %.200q", got, l)
	}
	want := shape.Facts{Entries: len(l), Height: tree.Height(u)}
	for _, e := range l {
		want.Bytes, want.Chains = want.Bytes+bytes(e), want.Chains+pages(e)
	}
	if root, ok := tree.Root(u); ok {
		count(root, &want)
	}
	f := shape.Of(u)
	if f != want {
		t.Fatalf("Of: %+v, not %+v", f, want)
	}
	n, err := shape.Most(l)
	if n != most(l) || err != nil {
		t.Fatalf("Most, of %d entries: %d, %v, not %d", len(l), n, err, most(l))
	}
	if got := shape.Pages(f); got != f.Leaves+f.Branches+f.Chains || got > n {
		t.Fatalf("Pages(%+v): %d, and Most is %d", f, got, n)
	}
	return f
}

// count counts the nodes from one on downwards.
func count(n tree.Node, f *shape.Facts) {
	if n.IsLeaf() {
		f.Leaves++
		return
	}
	f.Branches++
	for _, kid := range n.Kids() {
		count(kid, f)
	}
}

// TestEmpty: SP1, SP2, the empty tree takes nothing, and is right, however it came.
func TestEmpty(t *testing.T) {
	one := row(1, 6, 0)
	gone, _ := tree.Delete(of(t, one), one[0].Key)
	for _, u := range []tree.Tree{{}, of(t, nil), gone} {
		if f := right(t, u, nil); f != (shape.Facts{}) || shape.Pages(f) != 0 {
			t.Errorf("of the empty tree: %+v, %d pages", f, shape.Pages(f))
		}
	}
	for _, l := range [][]api.Entry{nil, {}} {
		if n, err := shape.Most(l); n != 0 || err != nil {
			t.Errorf("Most of none: %d, %v", n, err)
		}
	}
}

// TestOne: SP1, one entry, with a value of each size that is an edge: one leaf, and the pages of the value.
func TestOne(t *testing.T) {
	for long, want := range map[int][2]int{
		0: {3, 0}, 1: {4, 0}, 63: {66, 0}, 64: {67, 0}, 65: {5, 1}, 66: {5, 1}, 127: {5, 1}, 128: {6, 1},
		501: {6, 1}, 502: {6, 1}, 503: {6, 2}, 1004: {6, 2}, 1005: {6, 3}, 1506: {6, 3}, 1507: {6, 4}, 2008: {6, 4}, 2009: {6, 5}, 2048: {6, 5},
	} {
		l := []api.Entry{{Key: "a", Value: strings.Repeat("y", long)}}
		f := right(t, of(t, l), l)
		if f != (shape.Facts{Entries: 1, Height: 1, Leaves: 1, Chains: want[1], Bytes: want[0]}) {
			t.Errorf("Of one entry of %d bytes: %+v", long, f)
		}
		if n := shape.Pages(f); n != 1+want[1] {
			t.Errorf("Pages of one entry of %d bytes: %d", long, n)
		}
		if n, err := shape.Most(l); n != 2+want[1] || err != nil {
			t.Errorf("Most of one entry of %d bytes: %d, %v", long, n, err)
		}
	}
}

// TestKeySizes: SP1, SP2, each size of a key that may be.
func TestKeySizes(t *testing.T) {
	for size := 1; size <= 40; size++ {
		l := []api.Entry{{Key: strings.Repeat("k", size), Value: "ab"}}
		if f := right(t, of(t, l), l); f.Bytes != size+4 || shape.Pages(f) != 1 {
			t.Errorf("Of one key of %d bytes: %+v", size, f)
		}
	}
}

// TestPages: SP1, leaves, branches and pages of long values, and nothing else, are counted.
func TestPages(t *testing.T) {
	for _, c := range []struct {
		f    shape.Facts
		want int
	}{
		{shape.Facts{}, 0},
		{shape.Facts{Leaves: 1}, 1},
		{shape.Facts{Branches: 1}, 1},
		{shape.Facts{Chains: 1}, 1},
		{shape.Facts{Entries: 1000, Height: 100, Bytes: 10000}, 0},
		{shape.Facts{Entries: 1, Height: 2, Leaves: 4, Branches: 8, Chains: 16, Bytes: 32}, 28},
		{shape.Facts{Leaves: -3, Branches: 2, Chains: -1}, -2},
	} {
		if n := shape.Pages(c.f); n != c.want {
			t.Errorf("Pages(%+v): %d, not %d", c.f, n, c.want)
		}
	}
}

// TestMostEdges: SP2, at each number of bytes up to some thousand, and with long values beside them.
func TestMostEdges(t *testing.T) {
	for n := range 60 {
		for _, size := range []int{6, 20, 39, 40} {
			for _, long := range []int{0, 1, 2, 63, 64, 65, 502, 503, 2048} {
				l := append(row(n, size, long), api.Entry{Key: "z", Value: strings.Repeat("y", n)})
				if got, err := shape.Most(l); got != most(l) || err != nil {
					t.Fatalf("Most of %d entries of %d and %d bytes: %d, %v, not %d", n, size, long, got, err, most(l))
				}
			}
		}
	}
	// Two cells of 125 and 126 bytes in all, two of 251 and 252 in four.
	for long, want := range map[int]int{0: 2, 40: 2, 41: 4, 42: 4} {
		l := []api.Entry{sized(1, 40, 0), sized(2, 40, 1+long)}
		if got, err := shape.Most(l); got != want || err != nil {
			t.Errorf("Most of %d bytes: %d, %v, not %d", bytes(l[0])+bytes(l[1]), got, err, want)
		}
	}
}

// TestMostFull: SP2, as many entries as there may be, the least and the greatest, and one more.
func TestMostFull(t *testing.T) {
	for _, sizes := range [][2]int{{6, 0}, {40, 64}, {40, 65}, {40, 2048}} {
		l := row(4097, sizes[0], sizes[1])
		if n, err := shape.Most(l[:4096]); n != most(l[:4096]) || err != nil {
			t.Errorf("Most of 4,096 entries of %v bytes: %d, %v, not %d", sizes, n, err, most(l[:4096]))
		}
		if n, err := shape.Most(l); n != 0 || no(err) != api.ErrArg {
			t.Errorf("Most of 4,097 entries: %d, %v", n, err)
		}
	}
}

// TestMostWrong: SP2, a key or a value that may not be, or a key that is not above the one ahead, at each place.
func TestMostWrong(t *testing.T) {
	good := row(9, 6, 3)
	if n, err := shape.Most(good); n != most(good) || err != nil {
		t.Fatalf("Most: %d, %v", n, err)
	}
	for at := range good {
		wrong := []api.Entry{{}, {Key: "", Value: "x"}, {Key: key(at, 41)}, {Key: key(at, 300)}, sized(at, 6, 2049), sized(at, 6, 1<<16), sized(at, 41, 2049)}
		if at > 0 {
			wrong = append(wrong, good[at-1], sized(at-1, 6, 2), api.Entry{Key: key(at-1, 6)[:5]}, sized(0, 6, 3)) // the first one's key or below
		}
		for _, e := range wrong {
			l := slices.Clone(good)
			l[at] = e
			if n, err := shape.Most(l); n != 0 || no(err) != api.ErrArg {
				t.Errorf("Most, with %.80q at %d: %d, %v", e, at, n, err)
			}
		}
		for _, e := range []api.Entry{sized(at, 40, 0), sized(at, 6, 2048)} {
			l := slices.Clone(good)
			l[at] = e
			if n, err := shape.Most(l); n != most(l) || err != nil {
				t.Errorf("Most, with %.80q at %d: %d, %v, not %d", e, at, n, err, most(l))
			}
		}
	}
	// Keys are bytes: one that another begins with stands ahead of it, and 255 behind all.
	l := []api.Entry{{Key: "\x00"}, {Key: "\x00\x00"}, {Key: "Z"}, {Key: "a"}, {Key: "a\x00"}, {Key: "ab"}, {Key: "é"}, {Key: "\xff"}, {Key: "\xff\x00"}}
	if n, err := shape.Most(l); n != 2 || err != nil {
		t.Errorf("Most of short keys: %d, %v", n, err)
	}
	slices.Reverse(l)
	if n, err := shape.Most(l); n != 0 || no(err) != api.ErrArg {
		t.Errorf("Most of keys the other way round: %d, %v", n, err)
	}
}

// TestKept: what is handed in is not changed.
func TestKept(t *testing.T) {
	l := row(500, 20, 100)
	was := slices.Clone(l)
	u := of(t, l)
	for range 2 {
		right(t, u, was)
	}
	if !slices.Equal(l, was) {
		t.Errorf("Most changes what is handed in")
	}
	l[7].Key = ""
	was = slices.Clone(l)
	if _, err := shape.Most(l); no(err) != api.ErrArg || !slices.Equal(l, was) {
		t.Errorf("Most changes what is handed in: %v", err)
	}
}
