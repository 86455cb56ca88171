package sheet_test

import (
	"bytes"
	"errors"
	"math"
	"slices"
	"testing"

	"warren/api"
	"warren/sheet"
)

// kinds are those that there are, as the chapter numbers them.
func kinds() []uint8 { return []uint8{1, 2, 3, 4, 5} }

// plain is the sum of bytes, bit by bit, as chapter 2 tells it.
func plain(b []byte) uint32 {
	sum := uint32(math.MaxUint32)
	for _, c := range b {
		sum ^= uint32(c)
		for range 8 {
			went := sum & 1
			sum >>= 1
			if went == 1 {
				sum ^= 0x82f63b78
			}
		}
	}
	return ^sum
}

// summed are bytes with their sum behind them, whatever they are.
func summed(b []byte) []byte {
	s := plain(b)
	return append(slices.Clone(b), byte(s>>24), byte(s>>16), byte(s>>8), byte(s))
}

// page is one as the chapter's words tell it, right or not: its length is told, and what stands behind it is laid to its sum.
func page(kind, second byte, length int, behind []byte) []byte {
	b := append([]byte{kind, second, byte(length >> 8), byte(length)}, behind...)
	return summed(append(b, make([]byte, 508-len(b))...))
}

// bytesOf are so many bytes, each seed another row.
func bytesOf(n int, seed uint32) []byte {
	b := make([]byte, n)
	for i := range b {
		seed = seed*1664525 + 1013904223
		b[i] = byte(seed >> 24)
	}
	return b
}

// loads are those of lengths at and beside each edge: none, noughts alone, and mixed ones.
func loads() [][]byte {
	l := [][]byte{nil, {}, {0}, {1}, {255}, {0, 0, 7}, {7, 0, 0}}
	for _, n := range []int{2, 3, 4, 63, 64, 65, 127, 128, 254, 255, 256, 257, 300, 500, 501, 502, 503, 504} {
		l = append(l, make([]byte, n), bytes.Repeat([]byte{255}, n), bytesOf(n, uint32(n)))
	}
	return l
}

// tooLong are loads that no page has.
func tooLong() [][]byte {
	return [][]byte{make([]byte, 505), bytesOf(505, 1), bytesOf(508, 2), bytesOf(512, 3), make([]byte, 65536), bytesOf(65540, 4)}
}

// wrong fails, unless an error's number is the one that is asked for.
func wrong(t *testing.T, what string, err error, want api.Errno) {
	t.Helper()
	var got api.Errno
	if !errors.As(err, &got) || got != want {
		t.Errorf("%s: %v, not %v", what, err, want)
	}
}

// TestKinds: the kinds are from 1 to 5, in the chapter's order.
func TestKinds(t *testing.T) {
	got := []uint8{sheet.Leaf, sheet.Branch, sheet.Chain, sheet.Head, sheet.Super}
	if !slices.Equal(got, kinds()) {
		t.Errorf("kinds: %v", got)
	}
}

// TestSeal: SH1, held against pages as the chapter's words tell them.
func TestSeal(t *testing.T) {
	for _, kind := range kinds() {
		for _, load := range loads() {
			was := slices.Clone(load)
			got, err := sheet.Seal(kind, load)
			if want := page(kind, 0, len(load), load); err != nil || !bytes.Equal(got, want) {
				t.Errorf("Seal(%d, %d bytes): %x, %v, not %x", kind, len(load), got, err, want)
			}
			if !bytes.Equal(load, was) {
				t.Errorf("Seal(%d, %x) changes what was handed in", kind, was)
			}
		}
	}
}

// TestSealKnown: SH1, first and last bytes written out; noughts that stand in a load make another page than noughts behind it.
func TestSealKnown(t *testing.T) {
	for _, c := range []struct {
		kind        uint8
		load        []byte
		first, last []byte
	}{
		{1, nil, []byte{1, 0, 0, 0}, []byte{0x05, 0xd1, 0x68, 0x8b}},
		{2, nil, []byte{2, 0, 0, 0}, []byte{0x3a, 0xb6, 0x5d, 0xa2}},
		{3, []byte("warren"), []byte{3, 0, 0, 6, 'w'}, []byte{0x0e, 0x85, 0xaf, 0x77}},
		{4, make([]byte, 6), []byte{4, 0, 0, 6, 0}, []byte{0xec, 0xd3, 0xe5, 0x7b}},
		{3, bytes.Repeat([]byte{1}, 256), []byte{3, 0, 1, 0, 1}, []byte{0, 0x91, 0x54, 0x25, 0x48}},
		{5, bytes.Repeat([]byte{255}, 504), []byte{5, 0, 1, 0xf8, 255}, []byte{255, 0x09, 0x4a, 0x98, 0xee}},
	} {
		got, err := sheet.Seal(c.kind, c.load)
		if err != nil || len(got) != 512 || !bytes.HasPrefix(got, c.first) || !bytes.HasSuffix(got, c.last) {
			t.Errorf("Seal(%d, %d bytes): %x, %v, not %x .. %x", c.kind, len(c.load), got, err, c.first, c.last)
		}
	}
}

// TestSealWrong: SH1, kinds that there are not, first of all; then loads that are too long.
func TestSealWrong(t *testing.T) {
	for kind := range 256 {
		there := kind >= 1 && kind <= 5
		if !there {
			for _, load := range append(loads(), tooLong()...) {
				got, err := sheet.Seal(uint8(kind), load)
				wrong(t, "Seal", err, api.ErrArg)
				if len(got) != 0 {
					t.Errorf("Seal(%d, %d bytes): %x beside an error", kind, len(load), got)
				}
			}
			continue
		}
		for _, load := range tooLong() {
			was := slices.Clone(load)
			got, err := sheet.Seal(uint8(kind), load)
			wrong(t, "Seal", err, api.ErrLong)
			if len(got) != 0 || !bytes.Equal(load, was) {
				t.Errorf("Seal(%d, %d bytes): %x beside an error", kind, len(load), got)
			}
		}
	}
}

// TestRoom: SH1, each load that may be, and those that may not.
func TestRoom(t *testing.T) {
	for load := range 505 {
		if got, err := sheet.Room(load); got != 504-load || err != nil {
			t.Errorf("Room(%d): %d, %v", load, got, err)
		}
	}
	for _, load := range []int{math.MinInt, -504, -1, 505, 508, 512, 65536, 1 << 32, math.MaxInt} {
		got, err := sheet.Room(load)
		wrong(t, "Room", err, api.ErrArg)
		if got != 0 {
			t.Errorf("Room(%d): %d beside an error", load, got)
		}
	}
}

// TestBlank: SH1, noughts of any length, and one byte among them that is none, wherever it stands.
func TestBlank(t *testing.T) {
	for _, n := range []int{0, 1, 2, 63, 64, 511, 512, 513, 2000} {
		b := make([]byte, n)
		if !sheet.Blank(b) {
			t.Errorf("Blank of %d noughts is not told", n)
		}
		for i := range b {
			for _, c := range []byte{1, 128, 255} {
				b[i] = c
				if sheet.Blank(b) {
					t.Errorf("Blank of %d bytes, that at %d being %d", n, i, c)
				}
				if b[i] != c {
					t.Errorf("Blank changes what was handed in")
				}
			}
			b[i] = 0
		}
	}
	if !sheet.Blank(nil) {
		t.Errorf("Blank of nothing is not told")
	}
}

// TestSealShares: rule 3: a page and what it was made of share nothing, spare room neither; nor do two pages.
func TestSealShares(t *testing.T) {
	room := bytes.Repeat([]byte{9}, 1000)
	for _, n := range []int{0, 1, 100, 504} {
		got, _ := sheet.Seal(sheet.Chain, room[:n])
		two, _ := sheet.Seal(sheet.Chain, room[:n])
		apart(t, "Seal", got, room)
		apart(t, "Seal, twice", got, two)
	}
}

// apart fails, if what is written over one, with its spare room, is seen in the other, with its own.
func apart(t *testing.T, what string, one, two []byte) {
	t.Helper()
	one, two = one[:cap(one)], two[:cap(two)]
	was := slices.Clone(two)
	keep := slices.Clone(one)
	for i := range one {
		one[i] ^= 255
	}
	if !bytes.Equal(two, was) {
		t.Errorf("%s: memory is shared", what)
	}
	copy(one, keep)
}
