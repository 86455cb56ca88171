package pack_test

import (
	"bytes"
	"math"
	"slices"
	"testing"

	"warren/pack"
	"warren/varint"
)

// plain are a number's bytes, as layer 3 puts it.
func plain(v uint64) []byte { return varint.Put(nil, v) }

// numbers are those at and beside each power of two.
func numbers() []uint64 {
	l := []uint64{0, 300, math.MaxUint64}
	for i := range 64 {
		p := uint64(1) << i
		l = append(l, p-1, p, p+1)
	}
	return l
}

// some are so many bytes, one unlike the next one.
func some(n int) []byte {
	b := make([]byte, n)
	for i := range b {
		b[i] = byte(7*i + 3)
	}
	return b
}

// ahead are what fields are put behind.
func ahead() [][]byte { return [][]byte{nil, {}, {0}, {128}, {7, 255, 8}, some(200)} }

// behind fails, unless what was put stands behind b, and b is as it was.
func behind(t *testing.T, what string, got, b, was, want []byte) {
	t.Helper()
	if whole := slices.Concat(was, want); !bytes.Equal(got, whole) {
		t.Errorf("%s behind %x: %x, not %x", what, was, got, whole)
	}
	if !bytes.Equal(b, was) {
		t.Errorf("%s changes what was handed in: %x, not %x", what, b, was)
	}
}

// TestByte: PK1, each byte, behind others or none.
func TestByte(t *testing.T) {
	for _, b := range ahead() {
		for c := range 256 {
			was := slices.Clone(b)
			behind(t, "Byte", pack.Byte(b, uint8(c)), b, was, []byte{byte(c)})
		}
	}
}

// TestNum: PK1, numbers, behind others or none; where one byte more is needed, written out.
func TestNum(t *testing.T) {
	for _, b := range ahead() {
		for _, v := range numbers() {
			was := slices.Clone(b)
			behind(t, "Num", pack.Num(b, v), b, was, plain(v))
		}
		was := slices.Clone(b)
		behind(t, "Num", pack.Num(b, 0), b, was, []byte{0})
		behind(t, "Num", pack.Num(b, 127), b, was, []byte{127})
		behind(t, "Num", pack.Num(b, 128), b, was, []byte{128, 1})
		behind(t, "Num", pack.Num(b, 300), b, was, []byte{0xac, 0x02})
		most := append(bytes.Repeat([]byte{255}, 9), 1)
		behind(t, "Num", pack.Num(b, math.MaxUint64), b, was, most)
	}
}

// TestBytes: PK1, none, one, and so many that how many there are needs one byte more; and the chapter's example.
func TestBytes(t *testing.T) {
	for _, b := range ahead() {
		for _, n := range []int{0, 1, 2, 126, 127, 128, 129, 504, 2048, 16383, 16384} {
			was, more := slices.Clone(b), some(n)
			got := pack.Bytes(b, more)
			behind(t, "Bytes", got, b, was, slices.Concat(plain(uint64(n)), some(n)))
			if !bytes.Equal(more, some(n)) {
				t.Errorf("Bytes changes the %d bytes that were handed in", n)
			}
		}
		was := slices.Clone(b)
		behind(t, "Bytes", pack.Bytes(b, []byte("ab")), b, was, []byte{2, 'a', 'b'})
		behind(t, "Bytes", pack.Bytes(b, nil), b, was, []byte{0})
		behind(t, "Bytes", pack.Bytes(b, []byte{}), b, was, []byte{0})
		behind(t, "Bytes, of itself,", pack.Bytes(b, b), b, was, slices.Concat(plain(uint64(len(was))), was))
	}
}

// TestPutShares: rule 3: what is answered and what was handed in share nothing, spare room neither; nor do two answers.
func TestPutShares(t *testing.T) {
	for _, n := range []int{0, 1, 10, 100} {
		room, more := some(200), some(300)
		two := func(what string, put func() []byte) {
			t.Helper()
			got := put()
			apart(t, what, got, room)
			apart(t, what, got, more)
			apart(t, what+", twice", got, put())
			if !bytes.Equal(room, some(200)) || !bytes.Equal(more, some(300)) {
				t.Errorf("%s changes what was handed in", what)
			}
		}
		two("Byte", func() []byte { return pack.Byte(room[:n], 9) })
		two("Num", func() []byte { return pack.Num(room[:n], 300) })
		two("Bytes", func() []byte { return pack.Bytes(room[:n], more[:n]) })
		two("Bytes, of none,", func() []byte { return pack.Bytes(room[:n], nil) })
	}
}

// apart fails, if what is written over one, with its spare room, is seen in the other, with its own.
func apart(t *testing.T, what string, one, two []byte) {
	t.Helper()
	one, two = one[:cap(one)], two[:cap(two)]
	was, keep := slices.Clone(two), slices.Clone(one)
	for i := range one {
		one[i] ^= 255
	}
	if !bytes.Equal(two, was) {
		t.Errorf("%s: memory is shared", what)
	}
	copy(one, keep)
}
