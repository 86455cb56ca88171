package varint_test

import (
	"bytes"
	"errors"
	"math"
	"math/big"
	"slices"
	"testing"

	"warren/api"
	"warren/varint"
)

// endless are so many bytes of which none is a last one.
func endless(n int) []byte { return bytes.Repeat([]byte{128}, n) }

// got fails, unless Get answers just that; beside an error, 0 and 0.
func got(t *testing.T, b []byte, v uint64, n int, want api.Errno) {
	t.Helper()
	was := slices.Clone(b)
	num, size, err := varint.Get(b)
	var no api.Errno
	if err != nil && (!errors.As(err, &no) || no == 0) {
		t.Errorf("Get(%v): %v has no number", b, err)
	}
	if num != v || size != n || no != want {
		t.Errorf("Get(%v): %d, %d, %v, not %d, %d, %d", b, num, size, err, v, n, int(want))
	}
	if !bytes.Equal(b, was) {
		t.Errorf("Get(%v) changes what was handed in", was)
	}
}

// TestGet: VA1, the edges, whose bytes are written out.
func TestGet(t *testing.T) {
	for _, c := range edges() {
		got(t, c.b, c.v, len(c.b), 0)
	}
}

// TestPutGet: VA3, what was put is got, whatever stands behind.
func TestPutGet(t *testing.T) {
	behind := [][]byte{nil, {0}, {1}, {127}, {128}, {255}, {0, 0}, endless(20), {255, 0, 1, 2}}
	for _, v := range numbers() {
		size := len(plain(v))
		for _, more := range behind {
			got(t, append(varint.Put(nil, v), more...), v, size, 0)
		}
		two := varint.Put(varint.Put([]byte{9}, v), 300)
		got(t, two[1:], v, size, 0)
		got(t, two[1+size:], 300, 2, 0)
	}
}

// TestGetNone: VA1, bytes that end ahead of a last one, wherever a number is cut.
func TestGetNone(t *testing.T) {
	got(t, nil, 0, 0, api.ErrNone)
	got(t, []byte{}, 0, 0, api.ErrNone)
	got(t, []byte{255}, 0, 0, api.ErrNone)
	for n := range 10 {
		got(t, endless(n), 0, 0, api.ErrNone)
	}
	for _, v := range numbers() {
		b := varint.Put(nil, v)
		for n := range b {
			got(t, b[:n], 0, 0, api.ErrNone)
		}
	}
}

// TestGetRange: VA1, ten bytes without a last one, and a tenth one above 1: a last one or not, and whatever stands behind.
func TestGetRange(t *testing.T) {
	for c := 2; c < 256; c++ {
		b := append(endless(9), byte(c))
		got(t, b, 0, 0, api.ErrRange)
		got(t, append(b, 0), 0, 0, api.ErrRange)
		got(t, append(b, 1), 0, 0, api.ErrRange)
	}
	for n := 10; n < 14; n++ {
		got(t, endless(n), 0, 0, api.ErrRange)
		got(t, bytes.Repeat([]byte{255}, n), 0, 0, api.ErrRange)
	}
	got(t, endless(1000), 0, 0, api.ErrRange)
}

// TestGetTenth: VA1, the tenth byte may be 1, and 0 is no last one.
func TestGetTenth(t *testing.T) {
	got(t, append(endless(9), 1), 1<<63, 10, 0)
	got(t, append(endless(9), 1, 128), 1<<63, 10, 0)
	got(t, append(bytes.Repeat([]byte{255}, 9), 1), math.MaxUint64, 10, 0)
	got(t, append(endless(9), 0), 0, 0, api.ErrForm)
	got(t, append(endless(9), 0, 1), 0, 0, api.ErrForm)
}

// TestGetForm: VA1, a last byte that is 0 is right alone, and wrong behind others.
func TestGetForm(t *testing.T) {
	got(t, []byte{0}, 0, 1, 0)
	got(t, []byte{0, 0}, 0, 1, 0)
	got(t, []byte{0, 128}, 0, 1, 0)
	for n := 1; n < 10; n++ {
		got(t, append(endless(n), 0), 0, 0, api.ErrForm)
		got(t, append(bytes.Repeat([]byte{255}, n), 0), 0, 0, api.ErrForm)
		got(t, append(endless(n), 0, 1), 0, 0, api.ErrForm)
	}
}

// read is what Get must answer, told from the words alone: the last byte is looked for, then the number is summed without a bound.
func read(b []byte) (uint64, int, api.Errno) {
	last := slices.IndexFunc(b, func(c byte) bool { return c < 128 })
	if len(b) >= 10 && (last < 0 || last > 9) || last == 9 && b[9] > 1 {
		return 0, 0, api.ErrRange
	}
	if last < 0 {
		return 0, 0, api.ErrNone
	}
	if last > 0 && b[last] == 0 {
		return 0, 0, api.ErrForm
	}
	sum := new(big.Int)
	for i := last; i >= 0; i-- {
		sum.Lsh(sum, 7)
		sum.Add(sum, big.NewInt(int64(b[i]&127)))
	}
	return sum.Uint64(), last + 1, 0
}

// TestGetAll: VA1, each row of at most two bytes, and rows of all lengths up to 12 of bytes at the edges.
func TestGetAll(t *testing.T) {
	check := func(b []byte) {
		v, n, no := read(b)
		got(t, b, v, n, no)
	}
	for c := range 256 {
		check([]byte{byte(c)})
		for d := range 256 {
			check([]byte{byte(c), byte(d)})
		}
	}
	edge := []byte{0, 1, 2, 127, 128, 129, 255}
	for n := range 13 {
		for _, lead := range []byte{128, 129, 255} {
			for _, c := range edge {
				for _, d := range edge {
					check(append(bytes.Repeat([]byte{lead}, n), c, d))
				}
			}
		}
	}
}

// TestGetBack: VA1, a number has one row of bytes alone: what is got is put as it was.
func TestGetBack(t *testing.T) {
	seed := uint32(1)
	for range 20000 {
		b := make([]byte, 12)
		for i := range b {
			seed = seed*1664525 + 1013904223
			// Three of four bytes lead to another one, so that long rows come up.
			b[i] = byte(seed >> 24)
			if seed>>8&3 != 0 {
				b[i] |= 128
			}
		}
		v, n, no := read(b)
		got(t, b, v, n, no)
		if no == 0 && !bytes.Equal(varint.Put(nil, v), b[:n]) {
			t.Errorf("%d is got of %v, and put as %v", v, b[:n], varint.Put(nil, v))
		}
	}
}
