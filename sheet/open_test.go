package sheet_test

import (
	"bytes"
	"slices"
	"testing"

	"warren/api"
	"warren/sheet"
)

// opened fails, unless Open answers just that.
func opened(t *testing.T, b []byte, kind uint8, load []byte) {
	t.Helper()
	was := slices.Clone(b)
	k, l, err := sheet.Open(b)
	if k != kind || !bytes.Equal(l, load) || err != nil {
		t.Errorf("Open(%x): %d, %x, %v, not %d, %x", b, k, l, err, kind, load)
	}
	if !bytes.Equal(b, was) {
		t.Errorf("Open(%x) changes what was handed in", was)
	}
}

// refused fails, unless Open answers an error of that number, and nothing beside it.
func refused(t *testing.T, what string, b []byte, want api.Errno) {
	t.Helper()
	was := slices.Clone(b)
	kind, load, err := sheet.Open(b)
	wrong(t, what, err, want)
	if kind != 0 || len(load) != 0 {
		t.Errorf("%s: %d, %x beside an error", what, kind, load)
	}
	if !bytes.Equal(b, was) {
		t.Errorf("%s: Open changes what was handed in", what)
	}
}

// TestOpen: SH2, pages as the chapter's words tell them.
func TestOpen(t *testing.T) {
	for _, kind := range kinds() {
		for _, load := range loads() {
			opened(t, page(kind, 0, len(load), load), kind, load)
		}
	}
}

// TestSealOpen: SH3, what was sealed is opened, and is never blank; so it is of each length.
func TestSealOpen(t *testing.T) {
	for _, kind := range kinds() {
		for n := range 505 {
			for _, load := range [][]byte{make([]byte, n), bytesOf(n, uint32(n))} {
				b, err := sheet.Seal(kind, load)
				if err != nil || sheet.Blank(b) {
					t.Errorf("Seal(%d, %d bytes): %x, %v", kind, n, b, err)
				}
				opened(t, b, kind, load)
			}
		}
	}
}

// TestOpenLength: SH2, bytes that are not 512 are told ahead of their sum, right or not.
func TestOpenLength(t *testing.T) {
	refused(t, "nil", nil, api.ErrForm)
	refused(t, "nothing", []byte{}, api.ErrForm)
	good := page(sheet.Leaf, 0, 6, []byte("warren"))
	for n := range 512 {
		refused(t, "cut", good[:n], api.ErrForm)
	}
	refused(t, "one more", append(slices.Clone(good), 0), api.ErrForm)
	refused(t, "two of them", slices.Concat(good, good), api.ErrForm)
	for _, n := range []int{0, 4, 60, 507, 509, 1020} {
		b := make([]byte, n)
		if n > 0 {
			b[0] = sheet.Leaf
		}
		refused(t, "of another length, with its sum", summed(b), api.ErrForm)
	}
	refused(t, "a great many", bytesOf(65536, 1), api.ErrForm)
}

// TestOpenSum: SH2, another sum is told, be it a page else or not.
func TestOpenSum(t *testing.T) {
	refused(t, "noughts", make([]byte, 512), api.ErrSum)
	refused(t, "ones", bytes.Repeat([]byte{255}, 512), api.ErrSum)
	refused(t, "mixed", bytesOf(512, 6), api.ErrSum)
	low := page(sheet.Leaf, 0, 0, nil)
	slices.Reverse(low[508:])
	refused(t, "the sum, the lowest first", low, api.ErrSum)
	for _, b := range [][]byte{
		page(0, 0, 0, nil),
		page(6, 0, 0, nil),
		page(1, 1, 0, nil),
		page(1, 0, 505, nil),
		page(1, 0, 0, []byte{1}),
	} {
		b[511] ^= 1
		refused(t, "neither sum nor form", b, api.ErrSum)
	}
}

// TestOpenForm: SH2, a right sum over what is no page, in each way in which it may be none.
func TestOpenForm(t *testing.T) {
	for kind := range 256 {
		if kind < 1 || kind > 5 {
			refused(t, "no such kind", page(byte(kind), 0, 6, []byte("warren")), api.ErrForm)
		}
	}
	refused(t, "noughts with their sum", page(0, 0, 0, nil), api.ErrForm)
	for _, kind := range kinds() {
		for second := 1; second < 256; second++ {
			refused(t, "a second byte", page(kind, byte(second), 0, nil), api.ErrForm)
		}
		full := bytesOf(504, 8)
		for _, length := range []int{505, 506, 508, 512, 760, 1016, 32768, 65535} {
			refused(t, "a length above 504", page(kind, 0, length, nil), api.ErrForm)
			refused(t, "a length above 504, of a full page", page(kind, 0, length, full), api.ErrForm)
		}
	}
	refused(t, "a length, the lowest first", page(sheet.Leaf, 0, 0x0600, []byte("warren")), api.ErrForm)
	refused(t, "mixed, with their sum", summed(bytesOf(508, 9)), api.ErrForm)
}

// TestOpenBehind: SH2, what stands behind a load is noughts, from its first byte to its last.
func TestOpenBehind(t *testing.T) {
	for _, n := range []int{0, 1, 6, 255, 256, 502, 503} {
		for at := n; at < 504; at++ {
			behind := append(bytesOf(n, 3), make([]byte, 504-n)...)
			behind[at] = 1
			refused(t, "not noughts behind a load", page(sheet.Branch, 0, n, behind), api.ErrForm)
		}
	}
	full := bytesOf(504, 3)
	full[503] = 1
	opened(t, page(sheet.Branch, 0, 504, full), sheet.Branch, full)
}

// TestBits: SH3, with a bit turned, whichever, it is no page: its sum is another one.
func TestBits(t *testing.T) {
	for _, kind := range kinds() {
		for _, load := range [][]byte{nil, []byte("warren"), make([]byte, 504), bytesOf(504, uint32(kind))} {
			b, err := sheet.Seal(kind, load)
			if err != nil {
				t.Fatal(err)
			}
			for place := range 8 * len(b) {
				b[place/8] ^= 1 << (place % 8)
				refused(t, "a bit turned", b, api.ErrSum)
				b[place/8] ^= 1 << (place % 8)
			}
			opened(t, b, kind, load)
		}
	}
}

// TestOpenShares: rule 3: a load is of its own memory, spare room too.
func TestOpenShares(t *testing.T) {
	for _, n := range []int{0, 1, 100, 504} {
		b := page(sheet.Head, 0, n, bytesOf(n, 7))
		_, one, _ := sheet.Open(b)
		_, two, _ := sheet.Open(b)
		apart(t, "Open", one, b)
		apart(t, "Open, twice", one, two)
	}
}
