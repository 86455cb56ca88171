package chain_test

import (
	"bytes"
	"errors"
	"math"
	"slices"
	"strings"
	"testing"

	"warren/api"
	"warren/chain"
)

// load are a piece's bytes, told from the words: the page, the highest byte first, and the piece.
func load(next int, piece string) string {
	return string([]byte{byte(next / 256), byte(next % 256)}) + piece
}

// wrong fails, unless an error's number is that one.
func wrong(t *testing.T, what string, err error, want api.Errno) {
	t.Helper()
	var no api.Errno
	if !errors.As(err, &no) || no != want {
		t.Fatalf("%s: %v, not %v", what, err, want)
	}
}

// goes fails, unless a piece is its load, and that load is the piece.
func goes(t *testing.T, next int, piece string) {
	t.Helper()
	want := load(next, piece)
	if b, err := chain.Encode(next, piece); err != nil || string(b) != want {
		t.Fatalf("Encode(%d, %d bytes): %x, %v, not %x", next, len(piece), b, err, want)
	}
	b := []byte(want)
	if page, got, err := chain.Decode(b); err != nil || page != next || got != piece {
		t.Fatalf("Decode(%x): %d, %x, %v, not %d, %x", want, page, got, err, next, piece)
	}
	if string(b) != want {
		t.Fatalf("Decode changes what was handed in: %x, not %x", b, want)
	}
}

// refused fails, unless Encode answers ErrArg, and nothing beside it.
func refused(t *testing.T, next int, piece string) {
	t.Helper()
	b, err := chain.Encode(next, piece)
	if len(b) > 0 {
		t.Fatalf("Encode(%d, %d bytes): %x beside an error", next, len(piece), b)
	}
	wrong(t, "Encode", err, api.ErrArg)
}

// formless fails, unless Decode answers ErrForm, and nothing beside it.
func formless(t *testing.T, b string) {
	t.Helper()
	page, piece, err := chain.Decode([]byte(b))
	if page != 0 || piece != "" {
		t.Fatalf("Decode(%.40x): %d, %x beside an error", b, page, piece)
	}
	wrong(t, "Decode", err, api.ErrForm)
}

// TestLoadWritten: CH1, loads written out.
func TestLoadWritten(t *testing.T) {
	for _, c := range []struct {
		next  int
		piece string
		want  string
	}{
		{0, "a", "\x00\x00a"}, {2, "a", "\x00\x02a"}, {255, "ab", "\x00\xffab"}, {256, "\x00", "\x01\x00\x00"}, {258, "\xff", "\x01\x02\xff"},
		{1023, "\x00\x00", "\x03\xff\x00\x00"}, {512, "é", "\x02\x00\xc3\xa9"}, {0, "\x00\x00\x00", "\x00\x00\x00\x00\x00"},
	} {
		if load(c.next, c.piece) != c.want {
			t.Fatalf("load(%d, %q): %x, not %x", c.next, c.piece, load(c.next, c.piece), c.want)
		}
		goes(t, c.next, c.piece)
	}
}

// TestLoadPage: CH1, each page at which a value may go on, nowhere, and all others that two bytes can tell.
func TestLoadPage(t *testing.T) {
	pieces := []string{"\x00", "ab", text(502)}
	for next := range 1 << 16 {
		for _, piece := range pieces {
			if next == 0 || next >= 2 && next <= 1023 {
				goes(t, next, piece)
				continue
			}
			refused(t, next, piece)
			formless(t, load(next, piece))
		}
	}
}

// TestEncodePage: CH1, numbers that no page has, even those whose two lowest bytes would be a page's.
func TestEncodePage(t *testing.T) {
	for _, next := range []int{math.MinInt, math.MinInt + 2, -1 << 32, -65536, -65534, -64514, -1024, -1023, -3, -2, -1, 1, 1024, 1025, 2048, 65536, 65538, 1<<16 + 1023, 1 << 32, 1<<32 + 2, math.MaxInt - 1, math.MaxInt} {
		for _, piece := range []string{"a", "\x00", text(502), "", text(503)} {
			refused(t, next, piece)
		}
	}
}

// TestLoadSize: CH1, each size of a piece that may be, and those that may not.
func TestLoadSize(t *testing.T) {
	for n := range 1100 {
		for _, next := range []int{0, 2, 700, 1023} {
			for _, piece := range []string{text(n), strings.Repeat("\x00", n), strings.Repeat("\xff", n)} {
				if n >= 1 && n <= 502 {
					goes(t, next, piece)
					continue
				}
				refused(t, next, piece)
				formless(t, load(next, piece))
			}
		}
	}
	for _, n := range []int{1 << 16, 1<<16 + 1, 1<<16 + 502, 1 << 20} {
		refused(t, 2, text(n))
		formless(t, load(2, text(n)))
	}
}

// TestDecodeShort: CH1, fewer than three bytes are no load, whatever they are.
func TestDecodeShort(t *testing.T) {
	if page, piece, err := chain.Decode(nil); page != 0 || piece != "" || err == nil {
		t.Errorf("Decode(nil): %d, %q, %v", page, piece, err)
	}
	formless(t, "")
	for n := range 1 << 16 {
		formless(t, string([]byte{byte(n >> 8), byte(n)}))
		formless(t, string([]byte{byte(n)}))
	}
}

// TestDecodeBytes: CH1, bytes of any kind: those that are a load are one of what they tell.
func TestDecodeBytes(t *testing.T) {
	seed := uint32(1)
	next := func(n int) int {
		seed = seed*1664525 + 1013904223
		return int(seed>>8) % n
	}
	loads := 0
	for range 20000 {
		b := make([]byte, next(520))
		for i := range b {
			b[i] = byte(next(256))
		}
		if len(b) > 0 && next(4) > 0 {
			b[0] = byte(next(5))
		}
		if len(b) < 3 || len(b) > 504 || b[0] > 3 || b[0] == 0 && b[1] == 1 {
			formless(t, string(b))
			continue
		}
		loads++
		goes(t, int(b[0])*256+int(b[1]), string(b[2:]))
	}
	if loads < 5000 || loads > 15000 {
		t.Errorf("of all, %d are loads", loads)
	}
}

// laid are a value's loads by their pages: each piece goes on at the page of the next one, the last one nowhere.
func laid(t *testing.T, value string, pages []int) map[int][]byte {
	t.Helper()
	m := map[int][]byte{}
	pieces := chain.Pieces(value)
	for i, piece := range pieces {
		next := 0
		if i+1 < len(pieces) {
			next = pages[i+1]
		}
		b, err := chain.Encode(next, piece)
		if err != nil {
			t.Fatalf("Encode, piece %d of %d bytes: %v", i, len(value), err)
		}
		m[pages[i]] = b
	}
	return m
}

// TestValueBack: CH2, a value that lies on pages is read back from its first page on.
func TestValueBack(t *testing.T) {
	pages := []int{256, 1023, 2, 255, 700}
	for _, n := range []int{1, 65, 501, 502, 503, 1004, 1005, 2007, 2008, 2009, 2048} {
		value := text(n)
		loads, got := laid(t, value, pages), ""
		for page := pages[0]; page != 0; {
			next, piece, err := chain.Decode(loads[page])
			if err != nil {
				t.Fatalf("Decode, page %d of %d bytes: %v", page, n, err)
			}
			delete(loads, page)
			page, got = next, got+piece
		}
		if got != value || len(loads) > 0 {
			t.Errorf("a value of %d bytes comes back as one of %d bytes", n, len(got))
		}
	}
}

// TestLoadShares: rules 3 and 4: what is answered is new, its spare room too, and hangs on nothing that was handed in.
func TestLoadShares(t *testing.T) {
	one, _ := chain.Encode(700, "abc")
	two, _ := chain.Encode(700, "abc")
	want := slices.Clone(two)
	one = one[:cap(one)]
	for i := range one {
		one[i] = 255
	}
	if !bytes.Equal(two, want) {
		t.Errorf("Encode, twice: %x, not %x", two, want)
	}
	_, piece, _ := chain.Decode(two)
	clear(two)
	if piece != "abc" {
		t.Errorf("Decode keeps what was handed in: %q", piece)
	}
}
