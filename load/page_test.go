package load_test

import (
	"slices"
	"strconv"
	"strings"
	"testing"

	"warren/api"
	"warren/bitset"
)

// turned are pages with another one at a place.
func turned(pages [][]byte, at int, b []byte) [][]byte {
	l := slices.Clone(pages)
	l[at] = b
	return l
}

// set is a page with two other bytes from a place on, with its sum.
func set(page []byte, at int, bytes []byte) []byte {
	b := slices.Clone(page[:508])
	copy(b[at:], bytes)
	return summed(b)
}

// TestThere: LD1, each page there is: with fewer pages there is no tree, with more it is the same.
func TestThere(t *testing.T) {
	for high := 1; high <= 4; high++ {
		p := rooted(high)
		d, root := laid(p)
		for n := range len(d) {
			broken(t, "pages that are not there", d[:n], root, len(p.entries()))
		}
		// What lies on the two pages ahead, or on pages behind, is nothing to it.
		loaded(t, "other pages ahead", append([][]byte{d[2], nil}, d[2:]...), root, p.entries())
		loaded(t, "more pages", slices.Concat(d, d, [][]byte{nil, {1}}), root, p.entries())
	}
}

// TestBits: LD1, a bit that is turned in any page of a tree.
func TestBits(t *testing.T) {
	p := rooted(2)
	d, root := laid(p)
	for at := 2; at < len(d); at++ {
		for bit := range 8 * 512 {
			b := slices.Clone(d[at])
			b[bit/8] ^= 1 << (bit % 8)
			refused(t, "bit "+strconv.Itoa(bit)+" of page "+strconv.Itoa(at), turned(d, at, b), root, len(p.entries()), api.ErrCorrupt)
		}
	}
}

// TestNoPage: LD1, what is no page, though it may have a right sum, in the place of each page of a tree.
func TestNoPage(t *testing.T) {
	for high := 1; high <= 3; high++ {
		p := rooted(high)
		d, root := laid(p)
		for at := 2; at < len(d); at++ {
			good := d[at]
			n := len(loadOf(good))
			bad := [][]byte{
				nil, {}, good[:1], good[:4], good[:508], good[:511], append(slices.Clone(good), 0), slices.Concat(good, good),
				make([]byte, 512), slices.Repeat([]byte{255}, 512),
				set(good, 1, []byte{1}), set(good, 1, []byte{255}),
				set(good, 2, two(504+1)), set(good, 2, two(512)), set(good, 2, two(n+256)), set(good, 2, two(65535)),
			}
			if n < 504 {
				bad = append(bad, set(good, 4+n, []byte{1}), set(good, 507, []byte{255}))
			}
			for i, b := range bad {
				broken(t, "no page, "+strconv.Itoa(i), turned(d, at, b), root, len(p.entries()))
			}
		}
	}
}

// TestKinds: LD1, a page of another kind, with a load that is right, in the place of each page of a tree.
func TestKinds(t *testing.T) {
	for high := 1; high <= 3; high++ {
		p := rooted(high)
		d, root := laid(p)
		for at := 2; at < len(d); at++ {
			for kind := range 256 {
				if byte(kind) != d[at][0] {
					b := sealed(byte(kind), loadOf(d[at]))
					broken(t, "page "+strconv.Itoa(at)+" of the kind "+strconv.Itoa(kind), turned(d, at, b), root, len(p.entries()))
				}
			}
		}
	}
}

// TestLoads: LD1, a load that is longer, or shorter, in the place of each page of a tree.
func TestLoads(t *testing.T) {
	for high := 1; high <= 3; high++ {
		p := rooted(high)
		d, root := laid(p)
		for at := 2; at < len(d); at++ {
			good := loadOf(d[at])
			bad := [][]byte{nil, good[:1], good[:2], good[:len(good)-1], good[1:], good[:len(good)/2]}
			if len(good) < 504 {
				bad = append(bad, append(slices.Clone(good), 0), append(slices.Clone(good), 255), append([]byte{0}, good...))
			}
			if 2*len(good) <= 504 {
				bad = append(bad, slices.Concat(good, good))
			}
			for i, load := range bad {
				broken(t, "another load, "+strconv.Itoa(i), turned(d, at, sealed(d[at][0], load)), root, len(p.entries()))
			}
		}
	}
}

// TestRefs: LD1, where a page is named, no other one may be: none that is not there, and none that is of something else, be it above, beside or below.
func TestRefs(t *testing.T) {
	for high := 1; high <= 4; high++ {
		p := rooted(high)
		d, root := laid(p)
		r, _ := read(d, root)
		for i, ref := range r.refs {
			// Of the highest tree some are enough.
			if high == 4 && i%7 > 0 {
				continue
			}
			was := int(d[ref.page][ref.at])<<8 + int(d[ref.page][ref.at+1])
			for _, page := range []int{len(d), len(d) + 1, 1022, 1023, 1024, 1024 + was, 32768 + was, 65535} {
				broken(t, "a page that is not there", turned(d, ref.page, set(d[ref.page], ref.at, two(page))), root, len(p.entries()))
			}
			for page := range len(d) {
				if page != was {
					broken(t, "another page", turned(d, ref.page, set(d[ref.page], ref.at, two(page))), root, len(p.entries()))
				}
			}
			if was == 0 {
				continue
			}
			// What moves with all that is said of it lies elsewhere, and is the same.
			moved := append(turned(d, ref.page, set(d[ref.page], ref.at, two(len(d)))), d[was])
			loaded(t, "a page that moved", turned(moved, was, nil), root, p.entries())
		}
	}
}

// TestSides: LD1, trees whose nodes lie on the same page twice, though all else is right: a leaf in two places, a value of two cells, a branch below itself.
func TestSides(t *testing.T) {
	long := strings.Repeat("y", 600)
	d := newDisk()
	at := d.chain(cutUp(long))
	again := d.chain(cutUp(long))
	leaf := func(a, b int) []byte {
		return slices.Concat([]byte{2, 1, 'a'}, num(600), two(a), []byte{1, 'b'}, num(600), two(b))
	}
	want := []api.Entry{{Key: "a", Value: long}, {Key: "b", Value: long}}
	loaded(t, "two values", append(d, sealed(1, leaf(at, again))), len(d), want)
	broken(t, "one value of two cells", append(d, sealed(1, leaf(at, at))), len(d), 2)
	broken(t, "the other value of two cells", append(d, sealed(1, leaf(again, again))), len(d), 2)
	broken(t, "a value that ends in the other one", append(turned(d, again, sealed(3, append(two(at-1), long[:502]...))), sealed(1, leaf(at, again))), len(d), 2)
	broken(t, "a value that goes on at itself", append(turned(d, at, sealed(3, append(two(at), long[:502]...))), sealed(1, leaf(at, again))), len(d), 2)
	fork := append(newDisk(), sealed(2, slices.Concat(two(2), field("k"), two(3))), sealed(2, slices.Concat(two(3), field("l"), two(2))))
	broken(t, "branches below themselves", fork, 2, 0)
	broken(t, "branches below themselves", fork, 3, 4096)
	broken(t, "a branch twice over a leaf", append(newDisk(), sealed(2, slices.Concat(two(3), field("b"), two(3))), sealed(1, []byte{1, 1, 'a', 0})), 2, 2)
}

// TestDown: LD1, branches below one another, as many as there are pages, with no leaf at the end, and with one.
func TestDown(t *testing.T) {
	pages := make([][]byte, 1024)
	for at := 2; at < 1024; at++ {
		load := two(at + 1)
		for i := range 3 {
			load = slices.Concat(load, field(key(i, 40)), two(max(2, at-1-i)))
		}
		pages[at] = sealed(2, load)
	}
	refused(t, "no leaf", pages, 2, 1, api.ErrCorrupt)
	pages[1023] = sealed(1, []byte{1, 1, 'a', 0})
	refused(t, "one leaf", pages, 2, 1, api.ErrCorrupt)
}

// pieced are pages of one long value, said to have so many bytes, in pieces of other sizes; and its leaf's.
func pieced(long int, sizes []int) (disk, int, string) {
	var pieces []string
	for i, size := range sizes {
		pieces = append(pieces, strings.Repeat(string(rune('a'+i)), size))
	}
	d := newDisk()
	first := d.chain(pieces)
	root := d.write(1, slices.Concat([]byte{1, 1, 'k'}, num(long), two(first)))
	return d, root, strings.Join(pieces, "")
}

// isCut tells whether a value of so many bytes is cut up into pieces of such sizes.
func isCut(long int, sizes []int) bool {
	var want []int
	for ; long > 502; long -= 502 {
		want = append(want, 502)
	}
	return slices.Equal(sizes, append(want, long))
}

// TestPieces: LD1, a long value's pieces: all but the last one of 502 bytes, that one of what is left, and nothing behind.
func TestPieces(t *testing.T) {
	var lists [][]int
	sizes := []int{1, 2, 65, 501, 502}
	for _, a := range sizes {
		lists = append(lists, []int{a})
		for _, b := range sizes {
			lists = append(lists, []int{a, b})
			for _, c := range sizes {
				lists = append(lists, []int{a, b, c}, []int{502, a, b, c})
			}
		}
	}
	right := 0
	for _, long := range []int{65, 66, 501, 502, 503, 504, 567, 1003, 1004, 1005, 1006, 1069, 1505, 1506, 1507, 2008} {
		for _, l := range lists {
			d, root, value := pieced(long, l)
			if isCut(long, l) {
				right++
				loaded(t, "a long value", d, root, []api.Entry{{Key: "k", Value: value}})
			} else {
				refused(t, "pieces of a value of "+strconv.Itoa(long), d, root, 1, api.ErrCorrupt)
			}
		}
	}
	if right < 15 {
		t.Errorf("%d values are right", right)
	}
}

// TestValues: LD1, values of each length about an edge: those of at most 64 bytes lie in their leaf, longer ones on pages.
func TestValues(t *testing.T) {
	for _, edge := range []int{0, 64, 127, 502, 504, 1004, 1008, 1506, 1512, 2008, 2046} {
		for long := max(edge-2, 0); long <= min(edge+2, 2048); long++ {
			p := &plain{cells: []api.Entry{sized(12345, 7, long), sized(23456, 9, 2048-long)}}
			d, root := laid(p)
			u := loaded(t, "a value of "+strconv.Itoa(long), d, root, p.entries())
			if n, want := strings.Count(told(u), ","), pagesOf(long)+pagesOf(2048-long); n != want {
				t.Errorf("a value of %d bytes: both lie on %d pages, not %d", long, n, want)
			}
		}
	}
	// One that its leaf should have lies on a page, and the other way round.
	d := newDisk()
	at := d.chain([]string{strings.Repeat("y", 64)})
	broken(t, "64 bytes on a page", append(d, sealed(1, slices.Concat([]byte{1, 1, 'k', 64}, two(at)))), len(d), 1)
	broken(t, "65 bytes in a leaf", append(d, sealed(1, slices.Concat([]byte{1, 1, 'k', 65}, slices.Repeat([]byte("y"), 65)))), len(d), 1)
	at = d.chain(cutUp(strings.Repeat("y", 2049)))
	broken(t, "2,049 bytes on pages", append(d, sealed(1, slices.Concat([]byte{1, 1, 'k'}, num(2049), two(at)))), len(d), 1)
}

// pagesOf are how many pages a value has; 0: it lies in its leaf.
func pagesOf(long int) int {
	if long <= 64 {
		return 0
	}
	return (long + 501) / 502
}

// TestUsed: LD1, a tree on all pages that there are.
func TestUsed(t *testing.T) {
	p := wide(1021 - 10)
	for _, leaf := range p.kids {
		for i := range leaf.cells {
			leaf.cells[i].Value = strings.Repeat("y", 65+i)
		}
	}
	// A leaf of a hundred such cells is too long: sixty fit.
	p = parted(p.entries(), 60)
	d, root := laid(p)
	for len(d) > 1024 {
		p = parted(p.entries()[1:], 60)
		d, root = laid(p)
	}
	u := loaded(t, "all pages", d, root, p.entries())
	if len(d) != 1024 || root != 1023 || !strings.HasPrefix(told(u), "1023(") {
		t.Errorf("a tree on %d pages, from %d on", len(d), root)
	}
	if r, _ := read(d, root); bitset.Count(r.used) != 1022 {
		t.Errorf("%d pages are used", bitset.Count(r.used))
	}
	broken(t, "a page less", d[:1023], root, len(p.entries()))
}

// parted is a plain tree of two nodes' height with such cells, so many a leaf.
func parted(l []api.Entry, many int) *plain {
	p := &plain{}
	for cells := range slices.Chunk(l, many) {
		if len(p.kids) > 0 {
			p.between = append(p.between, cells[0].Key)
		}
		p.kids = append(p.kids, &plain{cells: cells})
	}
	return p
}
