package load_test

import (
	"slices"
	"strconv"
	"strings"

	"warren/api"
)

// plain is a node that can be changed: a leaf with cells, or a branch with kids.
type plain struct {
	cells   []api.Entry
	between []string
	kids    []*plain
}

// isLeaf tells whether it is a leaf.
func (p *plain) isLeaf() bool { return p.kids == nil }

// all are those from a plain node on downwards that are leaves, or branches.
func (p *plain) all(leaves bool) []*plain {
	var l []*plain
	if p.isLeaf() == leaves {
		l = append(l, p)
	}
	for _, kid := range p.kids {
		l = append(l, kid.all(leaves)...)
	}
	return l
}

// entries are those of all leaves, as they stand.
func (p *plain) entries() []api.Entry {
	var l []api.Entry
	for _, leaf := range p.all(true) {
		l = append(l, leaf.cells...)
	}
	return l
}

// disk are pages on which plain nodes are laid, one behind the other, as chapters 3, 5, 8, 9 and 10 tell it.
type disk [][]byte

// newDisk has the two pages of the heads alone, out of which no tree is read.
func newDisk() disk { return disk{[]byte("?"), []byte("??")} }

// write is the page of a load.
func (d *disk) write(kind byte, load []byte) int {
	*d = append(*d, sealed(kind, load))
	return len(*d) - 1
}

// num are a number's bytes.
func num(n int) []byte {
	if n < 128 {
		return []byte{byte(n)}
	}
	return append([]byte{byte(n&127 | 128)}, num(n>>7)...)
}

// two are a page's.
func two(page int) []byte { return []byte{byte(page >> 8), byte(page)} }

// field are those of a text, behind how many they are.
func field(text string) []byte { return append(num(len(text)), text...) }

// node is the page of a plain node, behind all below it.
func (d *disk) node(p *plain) int {
	if p.isLeaf() {
		return d.write(1, d.leaf(p.cells))
	}
	load := two(d.node(p.kids[0]))
	for i, key := range p.between {
		load = slices.Concat(load, field(key), two(d.node(p.kids[i+1])))
	}
	return d.write(2, load)
}

// leaf is the load of such cells, whose long values are laid.
func (d *disk) leaf(cells []api.Entry) []byte {
	load := num(len(cells))
	for _, c := range cells {
		load = slices.Concat(load, field(c.Key), num(len(c.Value)))
		if len(c.Value) > 64 {
			load = append(load, two(d.chain(cutUp(c.Value)))...)
		} else {
			load = append(load, c.Value...)
		}
	}
	return load
}

// cutUp are the pieces of a long value.
func cutUp(value string) []string {
	if len(value) <= 502 {
		return []string{value}
	}
	return append([]string{value[:502]}, cutUp(value[502:])...)
}

// chain is the first page of a value of such pieces.
func (d *disk) chain(pieces []string) int {
	next := 0
	for _, piece := range slices.Backward(pieces) {
		next = d.write(3, append(two(next), piece...))
	}
	return next
}

// laid are the pages of a plain node, and all below it, and the root's.
func laid(p *plain) (disk, int) {
	d := newDisk()
	root := d.node(p)
	return d, root
}

// part is how many numbers there are for a leaf's keys; the first one is for the key between it and what lies ahead.
const part = 100

// key is one of so many bytes that begins with a number, by which such keys are in order.
func key(at, size int) string {
	digits := strconv.Itoa(100000 + at)
	return digits + strings.Repeat("x", size-len(digits))
}

// sized is an entry with such a key, and a value of so many bytes.
func sized(at, size, long int) api.Entry {
	return api.Entry{Key: key(at, size), Value: strings.Repeat(strconv.Itoa(at), long)[:long]}
}

// leafOf is the leaf of a part; it has at least 127 bytes, and of some parts a long value.
func leafOf(at int) *plain {
	long := []int{65, 0, 0, 503, 0, 64, 128, 0}[at%8]
	return &plain{cells: []api.Entry{sized(part*at+30, 40, 0), sized(part*at+50, 40, long), sized(part*at+70, 40, 0)}}
}

// over is a branch over plain nodes, each of so many parts, from a part on, with keys of 40 bytes between.
func over(at, parts int, kids ...*plain) *plain {
	p := &plain{kids: kids}
	for i := range kids[1:] {
		p.between = append(p.between, key(part*(at+parts*(i+1)), 40))
	}
	return p
}

// grown is a plain node of that height, from a part on, that may stand anywhere: with four kids, a branch has 131 bytes; and how many parts it has.
func grown(at, high int) (*plain, int) {
	if high == 1 {
		return leafOf(at), 1
	}
	var kids []*plain
	parts := 0
	for i := range 4 {
		kid, n := grown(at+i*parts, high-1)
		kids, parts = append(kids, kid), n
	}
	return over(at, parts, kids...), 4 * parts
}

// rooted is the root of a right tree of that height; it has two kids, which is enough for a root alone.
func rooted(high int) *plain {
	if high == 1 {
		return leafOf(0)
	}
	one, parts := grown(0, high-1)
	two, _ := grown(parts, high-1)
	return over(0, parts, one, two)
}

// each hands each leaf, or branch, of right trees of some heights on, by which one of them it is, and its root, of which nothing was changed.
func each(leaves bool, to func(root, p *plain, at int)) {
	for high := 1; high <= 4; high++ {
		for at := range rooted(high).all(leaves) {
			root := rooted(high)
			to(root, root.all(leaves)[at], at)
		}
	}
}
