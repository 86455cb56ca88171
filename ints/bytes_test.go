package ints_test

import (
	"bytes"
	"math"
	"slices"
	"testing"

	"warren/api"
	"warren/ints"
)

const some = 0x0123456789abcdef

// TestPut: IN1, ordinary sizes, and those at and beyond the edges.
func TestPut(t *testing.T) {
	ahead := []byte{7, 8}
	noughts := func(n int) []byte { return make([]byte, n) }
	whole := []byte{0x01, 0x23, 0x45, 0x67, 0x89, 0xab, 0xcd, 0xef}
	for _, c := range []struct {
		size int
		want []byte
	}{
		{math.MinInt, nil},
		{-1, nil},
		{0, nil},
		{1, []byte{0xef}},
		{2, []byte{0xcd, 0xef}},
		{3, []byte{0xab, 0xcd, 0xef}},
		{7, whole[1:]},
		{8, whole},
		{9, slices.Concat(noughts(1), whole)},
		{16, slices.Concat(noughts(8), whole)},
		{63, slices.Concat(noughts(55), whole)},
		{64, slices.Concat(noughts(56), whole)},
		{65, nil},
		{math.MaxInt, nil},
	} {
		for _, b := range [][]byte{nil, {}, ahead} {
			want := slices.Concat(b, c.want)
			if got := ints.Put(b, some, c.size); !bytes.Equal(got, want) {
				t.Errorf("Put(%v, some, %d): %v, not %v", b, c.size, got, want)
			}
		}
	}
}

// TestPutNumbers: IN1, numbers at the edges.
func TestPutNumbers(t *testing.T) {
	for _, c := range []struct {
		v    uint64
		size int
		want []byte
	}{
		{0, 1, []byte{0}},
		{0, 3, []byte{0, 0, 0}},
		{1, 2, []byte{0, 1}},
		{255, 1, []byte{255}},
		{256, 1, []byte{0}},
		{256, 2, []byte{1, 0}},
		{1 << 63, 8, []byte{128, 0, 0, 0, 0, 0, 0, 0}},
		{math.MaxUint64, 9, []byte{0, 255, 255, 255, 255, 255, 255, 255, 255}},
	} {
		if got := ints.Put(nil, c.v, c.size); !bytes.Equal(got, c.want) {
			t.Errorf("Put(nil, %d, %d): %v, not %v", c.v, c.size, got, c.want)
		}
	}
}

// TestPutShares: rule 3: what is handed in is neither changed nor kept, its spare room neither, at each kind of size.
func TestPutShares(t *testing.T) {
	for _, size := range []int{-1, 0, 1, 8, 9, 64, 65} {
		room := bytes.Repeat([]byte{9}, 100)
		b := room[:3]
		got := ints.Put(b, some, size)
		was := slices.Clone(got)
		if !bytes.Equal(room, bytes.Repeat([]byte{9}, 100)) {
			t.Errorf("size %d: what was handed in is changed: %v", size, room)
		}
		for i := range room {
			room[i] = 1
		}
		if !bytes.Equal(got, was) {
			t.Errorf("size %d: the answer is of what was handed in", size)
		}
		got = got[:cap(got)]
		for i := range got {
			got[i] = 2
		}
		if !bytes.Equal(room, bytes.Repeat([]byte{1}, 100)) {
			t.Errorf("size %d: the answer's room is of what was handed in", size)
		}
	}
}

// TestGet: IN1, from one byte to eight, noughts first too.
func TestGet(t *testing.T) {
	for _, c := range []struct {
		b    []byte
		want uint64
	}{
		{[]byte{0}, 0},
		{[]byte{255}, 255},
		{[]byte{1, 2}, 258},
		{[]byte{0, 0, 5}, 5},
		{[]byte{1, 0, 0, 0, 0, 0, 0}, 1 << 48},
		{[]byte{0x01, 0x23, 0x45, 0x67, 0x89, 0xab, 0xcd, 0xef}, some},
		{[]byte{128, 0, 0, 0, 0, 0, 0, 0}, 1 << 63},
		{bytes.Repeat([]byte{255}, 8), math.MaxUint64},
	} {
		was := slices.Clone(c.b)
		got, err := ints.Get(c.b)
		if got != c.want || err != nil {
			t.Errorf("Get(%v): %d, %v, not %d", c.b, got, err, c.want)
		}
		if !bytes.Equal(c.b, was) {
			t.Errorf("Get(%v) changes what was handed in", was)
		}
	}
}

// TestGetWrong: IN1, no bytes, or more than eight, be these noughts or not.
func TestGetWrong(t *testing.T) {
	for _, b := range [][]byte{
		nil,
		{},
		make([]byte, 9),
		bytes.Repeat([]byte{255}, 9),
		slices.Concat([]byte{0}, bytes.Repeat([]byte{255}, 8)),
		make([]byte, 64),
		bytes.Repeat([]byte{1}, 1000),
	} {
		was := slices.Clone(b)
		got, err := ints.Get(b)
		wrong(t, "Get", err, api.ErrArg)
		if got != 0 || !bytes.Equal(b, was) {
			t.Errorf("Get of %d bytes: %d, %v", len(b), got, b)
		}
	}
}

// TestPutGet: IN4, what was put is got: all of it, or its lowest bytes.
func TestPutGet(t *testing.T) {
	for _, v := range numbers() {
		for size := 1; size <= 8; size++ {
			b := ints.Put([]byte{1, 2}, v, size)
			got, err := ints.Get(b[2:])
			if want := v & ones(8*size); got != want || err != nil {
				t.Errorf("%d, of %d bytes: %d, %v, not %d", v, size, got, err, want)
			}
		}
	}
}
