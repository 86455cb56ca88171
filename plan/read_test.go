package plan_test

import (
	"bytes"
	"math"
	"slices"
	"testing"

	"warren/api"
	"warren/bitset"
)

// disk are pages as they were written; one that is not there is noughts.
type disk map[int][]byte

// plain is the sum of bytes, bit by bit, as chapter 2 tells it.
func plain(b []byte) uint32 {
	sum := uint32(math.MaxUint32)
	for _, c := range b {
		sum ^= uint32(c)
		for range 8 {
			went := sum & 1
			sum >>= 1
			if went == 1 {
				sum ^= 0x82f63b78
			}
		}
	}
	return ^sum
}

// sealed is a page of a kind with a load, as chapter 5 tells it.
func sealed(kind byte, load []byte) []byte {
	b := append([]byte{kind, 0, byte(len(load) >> 8), byte(len(load))}, load...)
	b = append(b, make([]byte, 508-len(b))...)
	s := plain(b)
	return append(b, byte(s>>24), byte(s>>16), byte(s>>8), byte(s))
}

// reader reads a tree out of pages, as chapters 3, 5, 8, 9 and 10 tell it.
type reader struct {
	t    *testing.T
	disk disk
	used bitset.Set
	list []api.Entry
	deep int // nodes above one another down to a leaf; 0: no leaf was read
}

// load is what a page holds that must be of a kind, and that nothing else was read from.
func (r *reader) load(at int, kind byte) []byte {
	if at < 2 || at > 1023 || bitset.Has(r.used, at) {
		r.t.Fatalf("page %d is read, and before that %v", at, bitset.All(r.used))
	}
	r.used = bitset.With(r.used, at)
	b := r.disk[at]
	if len(b) != 512 || b[0] != kind {
		r.t.Fatalf("page %d has %d bytes, %.8x, and should be of the kind %d", at, len(b), b, kind)
	}
	n := int(b[2])<<8 + int(b[3])
	if n > 504 || !bytes.Equal(b, sealed(kind, b[4:4+n])) {
		r.t.Fatalf("page %d is none: %x", at, b)
	}
	return slices.Clone(b[4 : 4+n])
}

// taken are the first bytes of a load, so many, which they leave.
func (r *reader) taken(b *[]byte, n int) []byte {
	if n > len(*b) {
		r.t.Fatalf("%d bytes are left, not %d", len(*b), n)
	}
	first := (*b)[:n]
	*b = (*b)[n:]
	return first
}

// num is the number with which a load begins, which leaves it.
func (r *reader) num(b *[]byte) int {
	n := 0
	for shift := 0; ; shift += 7 {
		c := r.taken(b, 1)[0]
		n += int(c&127) << shift
		if c < 128 {
			return n
		}
	}
}

// page is the page with which a load begins, which leaves it.
func (r *reader) page(b *[]byte) int {
	two := r.taken(b, 2)
	return int(two[0])<<8 + int(two[1])
}

// node reads a node, above which so many stand, less one; its keys are from one on, and below another one, if that is not "".
func (r *reader) node(at, deep int, from, to string) {
	if b := r.disk[at]; len(b) == 512 && b[0] == 2 {
		r.branch(r.load(at, 2), deep, from, to)
	} else {
		r.leaf(r.load(at, 1), deep, from, to)
	}
}

// branch reads what a branch holds, and all below it.
func (r *reader) branch(b []byte, deep int, from, to string) {
	kid := r.page(&b)
	if len(b) == 0 {
		r.t.Fatalf("a branch has no keys")
	}
	for len(b) > 0 {
		key := string(r.taken(&b, r.num(&b)))
		if key <= from || to != "" && key >= to {
			r.t.Fatalf("a branch from %q up to %q has the key %q", from, to, key)
		}
		r.node(kid, deep+1, from, key)
		kid, from = r.page(&b), key
	}
	r.node(kid, deep+1, from, to)
}

// leaf reads what a leaf holds.
func (r *reader) leaf(b []byte, deep int, from, to string) {
	if r.deep != 0 && r.deep != deep {
		r.t.Fatalf("leaves stand at %d and at %d", r.deep, deep)
	}
	r.deep = deep
	n := r.num(&b)
	for range n {
		key := string(r.taken(&b, r.num(&b)))
		if key < from || to != "" && key >= to {
			r.t.Fatalf("a leaf from %q up to %q has the key %q", from, to, key)
		}
		long := r.num(&b)
		value := ""
		if long > 64 {
			value = r.chain(r.page(&b), long)
		} else {
			value = string(r.taken(&b, long))
		}
		r.list = append(r.list, api.Entry{Key: key, Value: value})
	}
	if n == 0 || len(b) > 0 {
		r.t.Fatalf("a leaf has %d cells, and %d bytes behind", n, len(b))
	}
}

// chain reads a value of so many bytes, from a page on.
func (r *reader) chain(at, long int) string {
	value := ""
	for len(value) < long {
		b := r.load(at, 3)
		at = r.page(&b)
		if len(b) != min(502, long-len(value)) {
			r.t.Fatalf("of %d bytes, %d were read, and a page has %d", long, len(value), len(b))
		}
		value += string(b)
	}
	if at != 0 {
		r.t.Fatalf("a value of %d bytes goes on at page %d", long, at)
	}
	return value
}

// read fails, unless a tree of those entries lies there, from a root on, on just those pages, so many nodes high.
func read(t *testing.T, d disk, root int, want []api.Entry, used bitset.Set, high int) {
	t.Helper()
	r := &reader{t: t, disk: d}
	if root != 0 {
		r.node(root, 1, "", "")
	}
	if !slices.Equal(r.list, want) {
		t.Fatalf("from page %d on lie %.200q, not %.200q", root, r.list, want)
	}
	if r.used != used || r.deep != high {
		t.Fatalf("from page %d on lie %v, %d high, not %v, %d high", root, bitset.All(r.used), r.deep, bitset.All(used), high)
	}
}
