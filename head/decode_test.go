package head_test

import (
	"bytes"
	"math"
	"slices"
	"testing"

	"warren/api"
	"warren/head"
)

// decoded fails, unless Decode answers just that head.
func decoded(t *testing.T, b []byte, want head.Head) {
	t.Helper()
	was := slices.Clone(b)
	h, err := head.Decode(b)
	if h != want || err != nil {
		t.Fatalf("Decode, of %x: %v, %v, not %v", b, h, err, want)
	}
	if !bytes.Equal(b, was) {
		t.Fatalf("Decode, of %x, changes what was handed in", was)
	}
}

// refused fails, unless Decode answers an error of that number, and no head beside it.
func refused(t *testing.T, what string, b []byte, want api.Errno) {
	t.Helper()
	was := slices.Clone(b)
	h, err := head.Decode(b)
	wrong(t, "Decode, of "+what, err, want)
	if h != (head.Head{}) {
		t.Fatalf("Decode, of %s: %v beside an error", what, h)
	}
	if !bytes.Equal(b, was) {
		t.Fatalf("Decode, of %s, changes what was handed in", what)
	}
}

// some are heads that may be, of one byte a number, and of more.
func some() []head.Head {
	return []head.Head{
		{},
		{Seq: 1, Tenant: 1, Gen: 1},
		{Seq: 3, Tenant: 300, Gen: 1, Root: 2, Entries: 5},
		{Seq: 128, Tenant: 0, Gen: 16384, Root: 1023, Entries: 4096},
		{Seq: last, Tenant: last, Gen: last},
		{Seq: last, Tenant: last, Gen: last, Root: 1023, Entries: 4096},
	}
}

// listed are a head's numbers, in their order on its page.
func listed(h head.Head) []uint64 {
	return []uint64{h.Seq, h.Tenant, h.Gen, uint64(h.Root), uint64(h.Entries)}
}

// TestDecodeLength: HE1, layer 5's ErrForm: bytes that are not 512.
func TestDecodeLength(t *testing.T) {
	refused(t, "nil", nil, api.ErrForm)
	refused(t, "nothing", []byte{}, api.ErrForm)
	good := told(some()[2])
	for n := range 512 {
		refused(t, "a page that is cut", good[:n], api.ErrForm)
	}
	refused(t, "a page and one more", append(slices.Clone(good), 0), api.ErrForm)
	refused(t, "two pages", slices.Concat(good, good), api.ErrForm)
	refused(t, "a great many", make([]byte, 1<<16), api.ErrForm)
}

// TestDecodeSum: HE1, layer 5's ErrSum, ahead of whether it is a head's page.
func TestDecodeSum(t *testing.T) {
	refused(t, "noughts", make([]byte, 512), api.ErrSum)
	refused(t, "ones", bytes.Repeat([]byte{255}, 512), api.ErrSum)
	for _, b := range [][]byte{page(3, nums(0, 0, 0, 0, 0)), page(4, nil), page(4, nums(0, 0, 0, 0, 1)), page(9, nil)} {
		b[511] ^= 1
		refused(t, "another sum, over no head", b, api.ErrSum)
	}
	for _, h := range some() {
		b := told(h)
		for place := range 8 * len(b) {
			b[place/8] ^= 1 << (place % 8)
			refused(t, "a bit turned", b, api.ErrSum)
			b[place/8] ^= 1 << (place % 8)
		}
		decoded(t, b, h)
	}
}

// TestDecodeKind: HE1, a right page that is none of a head.
func TestDecodeKind(t *testing.T) {
	for _, h := range some() {
		load := nums(listed(h)...)
		for kind := range 256 {
			if kind != 4 {
				refused(t, "another kind", page(byte(kind), load), api.ErrForm)
			}
		}
		decoded(t, page(4, load), h)
	}
}

// TestDecodeLoad: HE1, a load that is not just five numbers: some are not there, or something stands behind.
func TestDecodeLoad(t *testing.T) {
	for _, h := range some() {
		load := nums(listed(h)...)
		for n := range load {
			refused(t, "a load that is cut", page(4, load[:n]), api.ErrForm)
		}
		for n := 1; n <= 5; n++ {
			refused(t, "a load without its first numbers", page(4, nums(listed(h)[n:]...)), api.ErrForm)
			refused(t, "a load with some numbers more", page(4, nums(append(listed(h), listed(h)[:n]...)...)), api.ErrForm)
		}
		for n := 1; n <= 504-len(load); n++ {
			refused(t, "noughts behind", page(4, append(slices.Clone(load), make([]byte, n)...)), api.ErrForm)
		}
		for c := range 256 {
			refused(t, "a byte behind", page(4, append(slices.Clone(load), byte(c))), api.ErrForm)
		}
	}
	refused(t, "a load of ones", page(4, bytes.Repeat([]byte{255}, 504)), api.ErrForm)
	refused(t, "a load of noughts", page(4, make([]byte, 504)), api.ErrForm)
}

// TestDecodeNumbers: HE1, numbers that layer 3 doesn't put so: with a last byte of 0, or of too many bytes.
func TestDecodeNumbers(t *testing.T) {
	for _, h := range some() {
		l := listed(h)
		for at, v := range l {
			ahead, behind := nums(l[:at]...), nums(l[at+1:]...)
			long := nums(v)
			long[len(long)-1] |= 128
			refused(t, "a number with a nought more", page(4, slices.Concat(ahead, long, []byte{0}, behind)), api.ErrForm)
			refused(t, "a number with two noughts more", page(4, slices.Concat(ahead, long, []byte{128, 0}, behind)), api.ErrForm)
			refused(t, "a number that never ends", page(4, slices.Concat(ahead, bytes.Repeat([]byte{128}, 20), behind)), api.ErrForm)
			refused(t, "a number above 2^64", page(4, slices.Concat(ahead, bytes.Repeat([]byte{128}, 9), []byte{2}, behind)), api.ErrForm)
		}
	}
}

// TestDecodeBounds: HE1, one number of a page, each, above what it may be, so far that it wraps round too.
func TestDecodeBounds(t *testing.T) {
	bounds := []uint64{last, last, last, 1023, 4096}
	for at, bound := range bounds {
		for _, v := range []uint64{bound + 1, bound + 2, 1 << 32, 1<<32 + 2, last + 1, math.MaxInt64, 1 << 63, 1<<63 + 2, math.MaxUint64 - 1, math.MaxUint64} {
			if v <= bound {
				continue
			}
			l := []uint64{3, 4, 5, 6, 7}
			l[at] = v
			refused(t, "a number above its bound", page(4, nums(l...)), api.ErrForm)
			l = slices.Clone(bounds)
			l[at] = v
			refused(t, "a number above its bound, beside the greatest", page(4, nums(l...)), api.ErrForm)
		}
	}
	for _, l := range [][]uint64{{0, 0, 0, 2, 0}, {0, 0, 0, 1, 0}, {0, 0, 0, 0, 1}, {0, 0, 0, 1, 1}, {3, 4, 5, 0, 4096}, {3, 4, 5, 1023, 0}} {
		refused(t, "a root without entries, or the other way round", page(4, nums(l...)), api.ErrForm)
	}
}

// TestDecodeThrown: HE1, loads that are thrown: each is refused, or the head that comes out has just this page.
func TestDecodeThrown(t *testing.T) {
	d := dice(7)
	heads := 0
	for range 20000 {
		load := make([]byte, d.throw(12))
		for i := range load {
			load[i] = byte(d.throw(6) * d.throw(40))
		}
		b := page(4, load)
		h, err := head.Decode(b)
		if err != nil {
			refused(t, "a load that is thrown", b, api.ErrForm)
			continue
		}
		heads++
		if !may(h) || !bytes.Equal(told(h), b) {
			t.Fatalf("Decode, of %x: %v", b, h)
		}
	}
	if heads == 0 {
		t.Error("no load that is thrown is a head's")
	}
}
