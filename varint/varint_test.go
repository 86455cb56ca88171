package varint_test

import (
	"bytes"
	"math"
	"math/big"
	"slices"
	"testing"

	"warren/varint"
)

// numbers are those at and beside each power of two, and some between.
func numbers() []uint64 {
	l := []uint64{0, 300, 0x0123456789abcdef, 0xaaaaaaaaaaaaaaaa, 0x5555555555555555, math.MaxUint64 - 1, math.MaxUint64}
	for i := range 64 {
		p := uint64(1) << i
		l = append(l, p-1, p, p+1, p+p/2, -p)
	}
	return l
}

// plain are a number's bytes, by dividing it: what is left over first.
func plain(v uint64) []byte {
	var b []byte
	n, radix, rest := new(big.Int).SetUint64(v), big.NewInt(128), new(big.Int)
	for {
		n.DivMod(n, radix, rest)
		c := byte(rest.Uint64())
		if n.Sign() == 0 {
			return append(b, c)
		}
		b = append(b, c+128)
	}
}

// edges are numbers with their bytes, where one byte more is needed, and at both ends.
func edges() []struct {
	v uint64
	b []byte
} {
	return []struct {
		v uint64
		b []byte
	}{
		{0, []byte{0}},
		{1, []byte{1}},
		{127, []byte{127}},
		{128, []byte{128, 1}},
		{129, []byte{129, 1}},
		{255, []byte{255, 1}},
		{256, []byte{128, 2}},
		{300, []byte{0xac, 0x02}},
		{1<<14 - 1, []byte{255, 127}},
		{1 << 14, []byte{128, 128, 1}},
		{1<<21 - 1, []byte{255, 255, 127}},
		{1 << 21, []byte{128, 128, 128, 1}},
		{1<<56 - 1, []byte{255, 255, 255, 255, 255, 255, 255, 127}},
		{1 << 56, []byte{128, 128, 128, 128, 128, 128, 128, 128, 1}},
		{1<<63 - 1, []byte{255, 255, 255, 255, 255, 255, 255, 255, 127}},
		{1 << 63, []byte{128, 128, 128, 128, 128, 128, 128, 128, 128, 1}},
		{math.MaxUint64, []byte{255, 255, 255, 255, 255, 255, 255, 255, 255, 1}},
	}
}

// TestPut: VA1, a number's bytes, behind others or none; the edges, and the chapter's example.
func TestPut(t *testing.T) {
	for _, c := range edges() {
		for _, b := range [][]byte{nil, {}, {0}, {128}, {7, 255, 8}} {
			want := slices.Concat(b, c.b)
			if got := varint.Put(b, c.v); !bytes.Equal(got, want) {
				t.Errorf("Put(%v, %d): %v, not %v", b, c.v, got, want)
			}
		}
	}
}

// TestPutPlain: VA1, held against numbers that are divided.
func TestPutPlain(t *testing.T) {
	for _, v := range numbers() {
		want := append([]byte{5, 6}, plain(v)...)
		if got := varint.Put([]byte{5, 6}, v); !bytes.Equal(got, want) {
			t.Errorf("Put(.., %d): %v, not %v", v, got, want)
		}
	}
}

// TestPutShares: rule 3: what is handed in is neither changed nor kept, its spare room neither.
func TestPutShares(t *testing.T) {
	for _, v := range []uint64{0, 1, 300, math.MaxUint64} {
		room := bytes.Repeat([]byte{9}, 50)
		got := varint.Put(room[:3], v)
		was := slices.Clone(got)
		if !bytes.Equal(room, bytes.Repeat([]byte{9}, 50)) {
			t.Errorf("Put(.., %d) changes what was handed in: %v", v, room)
		}
		for i := range room {
			room[i] = 1
		}
		if !bytes.Equal(got, was) {
			t.Errorf("Put(.., %d) answers what was handed in", v)
		}
		got = got[:cap(got)]
		for i := range got {
			got[i] = 2
		}
		if !bytes.Equal(room, bytes.Repeat([]byte{1}, 50)) {
			t.Errorf("Put(.., %d) answers room of what was handed in", v)
		}
	}
}

// TestSize: VA1, how many bytes a number has: at the edges, and as many as are put.
func TestSize(t *testing.T) {
	for _, c := range edges() {
		if got := varint.Size(c.v); got != len(c.b) {
			t.Errorf("Size(%d): %d, not %d", c.v, got, len(c.b))
		}
	}
	for _, v := range numbers() {
		if got := varint.Size(v); got != len(plain(v)) {
			t.Errorf("Size(%d): %d, not %d", v, got, len(plain(v)))
		}
	}
}

// TestZig: VA2, the edges that are named, both ways.
func TestZig(t *testing.T) {
	for _, c := range []struct {
		n int64
		v uint64
	}{
		{0, 0},
		{-1, 1},
		{1, 2},
		{-2, 3},
		{2, 4},
		{-64, 127},
		{64, 128},
		{1 << 62, 1 << 63},
		{-1 << 62, 1<<63 - 1},
		{math.MaxInt64, math.MaxUint64 - 1},
		{math.MinInt64 + 1, math.MaxUint64 - 2},
		{math.MinInt64, math.MaxUint64},
	} {
		if got := varint.Zig(c.n); got != c.v {
			t.Errorf("Zig(%d): %d, not %d", c.n, got, c.v)
		}
		if got := varint.Zag(c.v); got != c.n {
			t.Errorf("Zag(%d): %d, not %d", c.v, got, c.n)
		}
	}
}

// TestZigPlain: VA2, held against numbers that are not bounded, and back: of each number, with and without a sign.
func TestZigPlain(t *testing.T) {
	for _, v := range numbers() {
		n := int64(v)
		want := big.NewInt(n)
		want.Lsh(want, 1)
		if n < 0 {
			want.Neg(want)
			want.Sub(want, big.NewInt(1))
		}
		got := varint.Zig(n)
		if want.Cmp(new(big.Int).SetUint64(got)) != 0 {
			t.Errorf("Zig(%d): %d, not %v", n, got, want)
		}
		if back := varint.Zag(got); back != n {
			t.Errorf("Zag(%d): %d, not %d", got, back, n)
		}
		if back := varint.Zig(varint.Zag(v)); back != v {
			t.Errorf("Zig(Zag(%d)): %d", v, back)
		}
	}
}
