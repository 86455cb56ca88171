package head_test

import (
	"bytes"
	"errors"
	"math"
	"slices"
	"testing"

	"warren/api"
	"warren/head"
)

// last is the greatest Seq, Tenant and Gen that a head can have.
const last = 1 << 62

// dice are numbers that look thrown.
type dice uint32

// throw is the next number, from 0 to below a bound.
func (d *dice) throw(below int) int {
	*d = *d*1664525 + 1013904223
	return int(uint32(*d)>>8) % below
}

// plain is the sum of bytes, bit by bit, as chapter 2 tells it.
func plain(b []byte) uint32 {
	sum := uint32(math.MaxUint32)
	for _, c := range b {
		sum ^= uint32(c)
		for range 8 {
			went := sum & 1
			sum >>= 1
			if went == 1 {
				sum ^= 0x82f63b78
			}
		}
	}
	return ^sum
}

// page is one of a kind with a load, as chapter 5 tells it.
func page(kind byte, load []byte) []byte {
	b := append([]byte{kind, 0, byte(len(load) >> 8), byte(len(load))}, load...)
	b = append(b, make([]byte, 508-len(b))...)
	s := plain(b)
	return append(b, byte(s>>24), byte(s>>16), byte(s>>8), byte(s))
}

// nums are numbers as chapter 3 puts them, one behind the other.
func nums(l ...uint64) []byte {
	var b []byte
	for _, v := range l {
		for v > 127 {
			b = append(b, byte(v%128+128))
			v /= 128
		}
		b = append(b, byte(v))
	}
	return b
}

// told is a head's page, as the chapter's words tell it, whether the head may be or not.
func told(h head.Head) []byte {
	return page(4, nums(h.Seq, h.Tenant, h.Gen, uint64(h.Root), uint64(h.Entries)))
}

// may tells whether a head may be, as the chapter's words tell it.
func may(h head.Head) bool {
	if h.Seq > last || h.Tenant > last || h.Gen > last || h.Entries < 0 || h.Entries > 4096 {
		return false
	}
	if h.Entries == 0 {
		return h.Root == 0
	}
	return 2 <= h.Root && h.Root <= 1023
}

// wrong fails, unless an error's number is the one that is asked for.
func wrong(t *testing.T, what string, err error, want api.Errno) {
	t.Helper()
	var got api.Errno
	if !errors.As(err, &got) || got != want {
		t.Fatalf("%s: %v, not %v", what, err, want)
	}
}

// whole fails, unless Check, Encode and Decode answer of a head what the chapter says.
func whole(t *testing.T, h head.Head) {
	t.Helper()
	err := head.Check(h)
	got, twice := head.Encode(h)
	if !may(h) {
		wrong(t, "Check", err, api.ErrArg)
		wrong(t, "Encode", twice, api.ErrArg)
		if len(got) != 0 {
			t.Fatalf("Encode, of %v: %x beside an error", h, got)
		}
		refused(t, "a head that may not be", told(h), api.ErrForm)
		return
	}
	if err != nil || twice != nil {
		t.Fatalf("Check, Encode of %v: %v, %v", h, err, twice)
	}
	if want := told(h); !bytes.Equal(got, want) {
		t.Fatalf("Encode, of %v: %x, not %x", h, got, want)
	}
	decoded(t, got, h)
}

// numbers are those at and beside the edges of Seq, Tenant and Gen, and of how many bytes they take.
func numbers() []uint64 {
	l := []uint64{0, 1, 2, 3, 1023, 1024, 4096, 4097, last - 1, last, last + 1, 3 * last, math.MaxInt64, 1 << 63, math.MaxUint64 - 1, math.MaxUint64}
	for bits := 7; bits < 64; bits += 7 {
		l = append(l, 1<<bits-1, 1<<bits, 1<<bits+1)
	}
	return l
}

// ints are those at and beside the edges of Root and Entries.
func ints() []int {
	return []int{math.MinInt, math.MinInt + 1, math.MinInt32, -4096, -1024, -3, -2, -1, 0, 1, 2, 3, 4, 127, 128, 511, 512, 1022, 1023, 1024, 1025, 4095, 4096, 4097, 4098, math.MaxInt32, math.MaxInt32 + 1, last - 1, last, last + 1, math.MaxInt - 1, math.MaxInt}
}

// TestWritten: HE1, pages written out: the numbers, noughts, and the sum.
func TestWritten(t *testing.T) {
	greatest := []byte{0x80, 0x80, 0x80, 0x80, 0x80, 0x80, 0x80, 0x80, 0x40}
	for _, c := range []struct {
		h           head.Head
		first, last []byte
	}{
		{head.Head{}, []byte{4, 0, 0, 5, 0, 0, 0, 0, 0}, []byte{0x3a, 0x70, 0x37, 0x46}},
		{head.Head{Seq: 3, Tenant: 300, Gen: 1, Root: 2, Entries: 5}, []byte{4, 0, 0, 6, 3, 0xac, 2, 1, 2, 5}, []byte{0xc5, 0x1d, 0x5e, 0x4f}},
		{head.Head{Seq: 7, Tenant: 9, Gen: 128, Root: 127, Entries: 128}, []byte{4, 0, 0, 7, 7, 9, 0x80, 1, 0x7f, 0x80, 1}, []byte{0xd6, 0xaa, 0xda, 0x7b}},
		{head.Head{Seq: last, Tenant: last, Gen: last, Root: 1023, Entries: 4096}, slices.Concat([]byte{4, 0, 0, 31}, greatest, greatest, greatest, []byte{0xff, 7, 0x80, 0x20}), []byte{0xf7, 0x7d, 0xb4, 0x73}},
	} {
		want := slices.Concat(c.first, make([]byte, 508-len(c.first)), c.last)
		got, err := head.Encode(c.h)
		if err != nil || !bytes.Equal(got, want) {
			t.Errorf("Encode, of %v: %x, %v, not %x", c.h, got, err, want)
		}
		if err := head.Check(c.h); err != nil {
			t.Errorf("Check, of %v: %v", c.h, err)
		}
		decoded(t, want, c.h)
	}
}

// TestNumbers: HE1 and HE3, each of Seq, Tenant and Gen at each edge, with entries and without.
func TestNumbers(t *testing.T) {
	for _, h := range []head.Head{{Seq: 5, Tenant: 6, Gen: 7}, {Seq: 5, Tenant: 6, Gen: 7, Root: 8, Entries: 9}, {Seq: last, Tenant: last, Gen: last, Root: 2, Entries: 1}} {
		for _, v := range numbers() {
			for _, w := range numbers() {
				whole(t, head.Head{Seq: v, Tenant: w, Gen: h.Gen, Root: h.Root, Entries: h.Entries})
				whole(t, head.Head{Seq: v, Tenant: h.Tenant, Gen: w, Root: h.Root, Entries: h.Entries})
				whole(t, head.Head{Seq: h.Seq, Tenant: v, Gen: w, Root: h.Root, Entries: h.Entries})
			}
		}
	}
}

// TestRoots: HE1 and HE3, each Root, with each edge of Entries: none without entries, and none at the pages of the heads.
func TestRoots(t *testing.T) {
	for _, entries := range ints() {
		for root := -3; root < 1030; root++ {
			whole(t, head.Head{Seq: 1, Tenant: 2, Gen: 3, Root: root, Entries: entries})
		}
		for _, root := range ints() {
			whole(t, head.Head{Seq: 1, Tenant: 2, Gen: 3, Root: root, Entries: entries})
		}
	}
}

// TestEntries: HE1 and HE3, each number of entries, with each edge of Root.
func TestEntries(t *testing.T) {
	for _, root := range []int{-1, 0, 1, 2, 1023, 1024} {
		for entries := -3; entries < 4103; entries++ {
			whole(t, head.Head{Seq: 1, Tenant: 2, Gen: 3, Root: root, Entries: entries})
		}
	}
}

// TestThrown: HE3, heads that are thrown come back.
func TestThrown(t *testing.T) {
	d := dice(19)
	for range 2000 {
		var l [3]uint64
		for i := range l {
			l[i] = uint64(d.throw(1<<24)) << d.throw(38)
		}
		whole(t, head.Head{Seq: l[0], Tenant: l[1], Gen: l[2], Root: 2 + d.throw(1022), Entries: 1 + d.throw(4096)})
		whole(t, head.Head{Seq: l[0], Tenant: l[1], Gen: l[2]})
	}
}

// TestSlot: HE1, a commit's page, of each number, also of those that no head has.
func TestSlot(t *testing.T) {
	if n := head.Slot(3); n != 1 {
		t.Errorf("Slot, of 3: %d", n)
	}
	for seq := range uint64(1000) {
		if even, odd := head.Slot(2*seq), head.Slot(2*seq+1); even != 0 || odd != 1 {
			t.Errorf("Slot, of %d and of the next one: %d, %d", 2*seq, even, odd)
		}
	}
	for bits := 1; bits < 64; bits++ {
		seq := uint64(1) << bits
		if below, at, above := head.Slot(seq-1), head.Slot(seq), head.Slot(seq+1); below != 1 || at != 0 || above != 1 {
			t.Errorf("Slot, about %d: %d, %d, %d", seq, below, at, above)
		}
	}
	if n := head.Slot(math.MaxUint64); n != 1 {
		t.Errorf("Slot, of the greatest: %d", n)
	}
}

// TestEncodeShares: rule 3: a page is of its own memory, spare room too.
func TestEncodeShares(t *testing.T) {
	for _, h := range []head.Head{{}, {Seq: 3, Tenant: 300, Gen: 1, Root: 2, Entries: 5}} {
		one, _ := head.Encode(h)
		two, _ := head.Encode(h)
		was := slices.Clone(two[:cap(two)])
		for i := range one[:cap(one)] {
			one[:cap(one)][i] ^= 0x5a
		}
		if !bytes.Equal(two[:cap(two)], was) {
			t.Errorf("Encode, of %v: two pages share memory", h)
		}
		if again, err := head.Encode(h); err != nil || !bytes.Equal(again, told(h)) {
			t.Errorf("Encode, of %v, behind a page that was written over: %x, %v", h, again, err)
		}
	}
}
