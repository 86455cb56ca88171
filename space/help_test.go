package space_test

import (
	"bytes"
	"errors"
	"math"
	"slices"
	"strings"
	"testing"

	"warren/api"
	"warren/bitset"
	"warren/device"
	"warren/extent"
	"warren/head"
	"warren/load"
	"warren/plan"
	"warren/space"
	"warren/tree"
)

const (
	tenant = 9
	gen    = 300
	last   = 1 << 62 // the greatest Seq, Tenant and Gen
)

// stretches are those of pairs: from which page on, and how many.
func stretches(pairs ...int) []extent.Stretch {
	var l []extent.Stretch
	for i := 0; i < len(pairs); i += 2 {
		l = append(l, extent.Stretch{From: pairs[i], Many: pairs[i+1]})
	}
	return l
}

// eight are as many stretches as a space may have, that do not ascend, of a device of 40 pages.
var eight = stretches(20, 1, 4, 2, 39, 1, 9, 3, 0, 1, 30, 1, 25, 4, 7, 1)

// places are where the pages lie, by their numbers.
func places(ext []extent.Stretch) []int {
	var l []int
	for _, s := range ext {
		for page := s.From; page < s.From+s.Many; page++ {
			l = append(l, page)
		}
	}
	return l
}

// made is a device of so many pages, of noughts.
func made(t *testing.T, pages int) *device.Device {
	t.Helper()
	d, err := device.New(pages)
	if err != nil {
		t.Fatalf("New(%d): %v", pages, err)
	}
	return d
}

// marked is a device of so many pages, on each of which bytes stand, that are safe.
func marked(t *testing.T, pages int) *device.Device {
	t.Helper()
	d := made(t, pages)
	for n := range pages {
		b := make([]byte, 512)
		// In some sectors nothing stands.
		for at := n % 3 * 64; at < 512; at += 64 * (1 + n%2) {
			b[at+n%64] = byte(n%255 + 1)
		}
		write(t, d, n, b)
	}
	return d
}

// write writes a page of a device, and lets it be safe.
func write(t *testing.T, d *device.Device, n int, b []byte) {
	t.Helper()
	good(t, "WritePage", d.WritePage(n, b))
	good(t, "Sync", d.Sync())
}

// pagesOf are a device's pages, as what was written last.
func pagesOf(t *testing.T, d *device.Device) [][]byte {
	t.Helper()
	var l [][]byte
	for n := range d.Pages() {
		b, err := d.ReadPage(n)
		if err != nil {
			t.Fatalf("ReadPage(%d): %v", n, err)
		}
		l = append(l, b)
	}
	return l
}

// safeOf are a device's pages as they would be, if all that waits were lost.
func safeOf(t *testing.T, d *device.Device) [][]byte {
	t.Helper()
	c := d.Copy()
	c.Crash(nil)
	return pagesOf(t, c)
}

// numbered are the pages of a space, by their numbers.
func numbered(pages [][]byte, ext []extent.Stretch) [][]byte {
	var l [][]byte
	for _, at := range places(ext) {
		l = append(l, pages[at])
	}
	return l
}

// outside fails, unless all pages that are not a space's are as they were.
func outside(t *testing.T, what string, d *device.Device, ext []extent.Stretch, was [][]byte) {
	t.Helper()
	mine := places(ext)
	for n, b := range pagesOf(t, d) {
		if !slices.Contains(mine, n) && !bytes.Equal(b, was[n]) {
			t.Errorf("%s: page %d of the device, which is not the space's, is another one", what, n)
		}
	}
}

// same fails, unless a device has what it had, and nothing waits.
func same(t *testing.T, what string, d *device.Device, was [][]byte) {
	t.Helper()
	if !slices.EqualFunc(pagesOf(t, d), was, bytes.Equal) || len(d.Waiting()) != 0 {
		t.Errorf("%s: the device is another one, and %v wait", what, d.Waiting())
	}
}

// isNoughts tells whether bytes are 0, each of them.
func isNoughts(b []byte) bool { return len(bytes.Trim(b, "\x00")) == 0 }

// sectors are how many sectors of pages are not noughts.
func sectors(pages ...[]byte) int {
	many := 0
	for _, b := range pages {
		for at := 0; at < len(b); at += 64 {
			if !isNoughts(b[at : at+64]) {
				many++
			}
		}
	}
	return many
}

// plain is the sum of bytes, bit by bit, as chapter 2 tells it.
func plain(b []byte) uint32 {
	sum := uint32(math.MaxUint32)
	for _, c := range b {
		sum ^= uint32(c)
		for range 8 {
			went := sum & 1
			sum >>= 1
			if went == 1 {
				sum ^= 0x82f63b78
			}
		}
	}
	return ^sum
}

// told is a head's page, as the words of chapters 3, 5 and 19 tell it.
func told(h head.Head) []byte {
	var load []byte
	for _, v := range []uint64{h.Seq, h.Tenant, h.Gen, uint64(h.Root), uint64(h.Entries)} {
		for v > 127 {
			load = append(load, byte(v%128+128))
			v /= 128
		}
		load = append(load, byte(v))
	}
	b := append([]byte{4, 0, 0, byte(len(load))}, load...)
	b = append(b, make([]byte, 508-len(b))...)
	s := plain(b)
	return append(b, byte(s>>24), byte(s>>16), byte(s>>8), byte(s))
}

// wrong fails, unless an error's number is the one that is asked for.
func wrong(t *testing.T, what string, err error, want api.Errno) {
	t.Helper()
	var no api.Errno
	if !errors.As(err, &no) || no != want {
		t.Errorf("%s: %v, not %d", what, err, int(want))
	}
}

// good ends the test, if there is an error.
func good(t *testing.T, what string, err error) {
	t.Helper()
	if err != nil {
		t.Fatalf("%s: %v", what, err)
	}
}

// formatted is a space that was formatted, and opened.
func formatted(t *testing.T, d *device.Device, ext []extent.Stretch) *space.Space {
	t.Helper()
	good(t, "Format", space.Format(d, ext, tenant, gen))
	return opened(t, d, ext)
}

// opened is a space that is there.
func opened(t *testing.T, d *device.Device, ext []extent.Stretch) *space.Space {
	t.Helper()
	s, err := space.Open(d, ext, tenant, gen)
	if err != nil || s == nil {
		t.Fatalf("Open: %v, %v", s, err)
	}
	return s
}

// closed fails, unless a space can't be opened, by that error.
func closed(t *testing.T, what string, d *device.Device, ext []extent.Stretch, tenant, gen uint64, want api.Errno) {
	t.Helper()
	s, err := space.Open(d, ext, tenant, gen)
	wrong(t, what, err, want)
	if s != nil {
		t.Errorf("%s: a space, beside an error", what)
	}
}

// isSpace fails, unless a space tells of a tree with those entries, that commit, and so many pages.
func isSpace(t *testing.T, what string, s *space.Space, seq uint64, l []api.Entry, pages int) {
	t.Helper()
	if s.Seq() != seq || s.Pages() != pages || !slices.Equal(tree.All(s.Tree()), l) {
		t.Fatalf("%s: the commit %d of %d entries, on %d pages, not %d of %d, on %d",
			what, s.Seq(), tree.Len(s.Tree()), s.Pages(), seq, len(l), pages)
	}
	if s.Used() != plan.Used(s.Tree()) || plan.Need(s.Tree()) != 0 {
		t.Fatalf("%s: %v are used, while the tree lies on %v", what, bitset.All(s.Used()), bitset.All(plan.Used(s.Tree())))
	}
}

// lies fails, unless on a device lies what a commit leaves there: its head, a tree with those entries, and noughts
// on all other pages but those of the heads, and those that are held; nothing waits.
func lies(t *testing.T, what string, d *device.Device, ext []extent.Stretch, seq uint64, l []api.Entry, held bitset.Set) {
	t.Helper()
	pages := numbered(pagesOf(t, d), ext)
	h, err := head.Decode(pages[seq%2])
	if want := (head.Head{Seq: seq, Tenant: tenant, Gen: gen, Root: h.Root, Entries: len(l)}); err != nil || h != want || !bytes.Equal(pages[seq%2], told(want)) {
		t.Fatalf("%s: the head is %v, %v, of %d entries, at the commit %d", what, h, err, len(l), seq)
	}
	u, err := load.Load(pages, h.Root, h.Entries)
	if err != nil || !slices.Equal(tree.All(u), l) {
		t.Fatalf("%s: a tree of %d entries lies there, %v, not one of %d", what, tree.Len(u), err, len(l))
	}
	lasts := bitset.Either(plan.Used(u), held)
	for n, b := range pages[2:] {
		if !bitset.Has(lasts, n+2) && !isNoughts(b) {
			t.Fatalf("%s: page %d is not noughts, while %v are used or held", what, n+2, bitset.All(lasts))
		}
	}
	if w := d.Waiting(); len(w) != 0 {
		t.Fatalf("%s: %v wait", what, w)
	}
}

// lasts fails, unless a space tells what lies there, and it is found when it is opened anew; that is done on a copy, as what is held would be let go.
func lasts(t *testing.T, what string, d *device.Device, ext []extent.Stretch, s *space.Space, seq uint64, l []api.Entry, held bitset.Set) {
	t.Helper()
	isSpace(t, what, s, seq, l, len(places(ext)))
	lies(t, what, d, ext, seq, l, held)
	c := d.Copy()
	isSpace(t, what+", opened anew", opened(t, c, ext), seq, l, len(places(ext)))
	lies(t, what+", opened anew", c, ext, seq, l, bitset.Set{})
}

// put is a tree with an entry that may be put.
func put(t *testing.T, u tree.Tree, key, value string) tree.Tree {
	t.Helper()
	v, err := tree.Put(u, key, value)
	good(t, "Put", err)
	return v
}

// without is a tree without a key that is there.
func without(t *testing.T, u tree.Tree, key string) tree.Tree {
	t.Helper()
	v, ok := tree.Delete(u, key)
	if !ok {
		t.Fatalf("Delete(%q): it is not there", key)
	}
	return v
}

// with is a tree with so many entries more, whose keys begin with a letter, and whose values have so many bytes.
func with(t *testing.T, u tree.Tree, letter string, many, value int) tree.Tree {
	t.Helper()
	for i := range many {
		u = put(t, u, letter+string([]byte{byte(i >> 8), byte(i)}), strings.Repeat(string(rune('a'+i%26)), value))
	}
	return u
}

// set are these numbers.
func set(l ...int) bitset.Set {
	var s bitset.Set
	for _, n := range l {
		s = bitset.With(s, n)
	}
	return s
}

// free is how many pages a commit may take of so many.
func free(pages int, s *space.Space, held bitset.Set) int {
	return bitset.Count(bitset.Less(bitset.Below(pages), bitset.Either(set(0, 1), bitset.Either(s.Used(), held))))
}

// dice are numbers that look thrown.
type dice uint32

// under is the next number, from 0 to below a bound.
func (d *dice) under(bound int) int {
	*d = *d*1664525 + 1013904223
	return int(uint32(*d)>>8) % bound
}

// bits are so many, thrown.
func (d *dice) bits(many int) []bool {
	l := make([]bool, many)
	for i := range l {
		l[i] = d.under(2) == 1
	}
	return l
}
