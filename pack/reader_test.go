package pack_test

import (
	"bytes"
	"errors"
	"math"
	"slices"
	"testing"

	"warren/api"
	"warren/pack"
)

// form fails, unless an error's number is 3.
func form(t *testing.T, what string, err error) {
	t.Helper()
	var no api.Errno
	if !errors.As(err, &no) || no != api.ErrForm {
		t.Errorf("%s: %v, not %v", what, err, api.ErrForm)
	}
}

// left fails, unless so many bytes are left, and Done says the same, asked twice.
func left(t *testing.T, what string, r *pack.Reader, n int) {
	t.Helper()
	for range 2 {
		if got := r.Left(); got != n {
			t.Errorf("%s: %d left, not %d", what, got, n)
		}
		if n > 0 {
			form(t, what, r.Done())
		} else if err := r.Done(); err != nil {
			t.Errorf("%s: %v", what, err)
		}
	}
}

// spoiled fails, unless nothing is left, each thing that is asked is 0 or nothing, and Done tells that something was wrong.
func spoiled(t *testing.T, what string, r *pack.Reader) {
	t.Helper()
	for range 2 {
		form(t, what, r.Done())
		if n := r.Left(); n != 0 {
			t.Errorf("%s: %d left", what, n)
		}
		if c := r.Byte(); c != 0 {
			t.Errorf("%s, then Byte: %d", what, c)
		}
		for _, most := range []uint64{0, 1, math.MaxUint64} {
			if v := r.Num(most); v != 0 {
				t.Errorf("%s, then Num(%d): %d", what, most, v)
			}
		}
		for _, most := range []int{math.MinInt, -1, 0, 1, math.MaxInt} {
			if b := r.Bytes(most); len(b) != 0 {
				t.Errorf("%s, then Bytes(%d): %x", what, most, b)
			}
		}
	}
}

// TestReaderNil: a nil reader has 0, nothing, and ErrForm, whatever is asked, and how often.
func TestReaderNil(t *testing.T) {
	var r *pack.Reader
	spoiled(t, "nil", r)
}

// TestReaderEmpty: PK2, of no bytes nothing is left, and nothing was wrong, but what is asked is.
func TestReaderEmpty(t *testing.T) {
	for _, b := range [][]byte{nil, {}} {
		left(t, "none", pack.New(b), 0)
		for what, ask := range map[string]func(*pack.Reader){
			"Byte":     func(r *pack.Reader) { r.Byte() },
			"Num":      func(r *pack.Reader) { r.Num(math.MaxUint64) },
			"Bytes":    func(r *pack.Reader) { r.Bytes(math.MaxInt) },
			"Bytes(0)": func(r *pack.Reader) { r.Bytes(0) },
		} {
			r := pack.New(b)
			ask(r)
			spoiled(t, what+" of none", r)
		}
	}
	var r pack.Reader
	left(t, "a reader as it is made", &r, 0)
}

// TestReaderByte: PK2, each byte, and one beyond the last one.
func TestReaderByte(t *testing.T) {
	for c := range 256 {
		r := pack.New([]byte{byte(c), 9})
		if got := r.Byte(); got != uint8(c) {
			t.Errorf("Byte: %d, not %d", got, c)
		}
		left(t, "Byte", r, 1)
		if got := r.Byte(); got != 9 {
			t.Errorf("Byte: %d, not 9", got)
		}
		left(t, "Byte, twice", r, 0)
		if got := r.Byte(); got != 0 {
			t.Errorf("Byte: %d, of none", got)
		}
		spoiled(t, "Byte, beyond the end", r)
	}
}

// TestReaderNum: PK2, numbers that are at most what is asked, and those that are above.
func TestReaderNum(t *testing.T) {
	for _, v := range numbers() {
		b := plain(v)
		for _, most := range []uint64{v, v | v>>1, math.MaxUint64} {
			for _, more := range [][]byte{nil, {0}, {128}, {255, 255}, some(50)} {
				r := pack.New(slices.Concat(b, more))
				if got := r.Num(most); got != v {
					t.Errorf("Num(%d): %d, not %d", most, got, v)
				}
				left(t, "Num", r, len(more))
			}
		}
		if v == 0 {
			continue
		}
		for _, most := range []uint64{0, v / 2, v - 1} {
			r := pack.New(slices.Concat(b, some(50)))
			if got := r.Num(most); got != 0 {
				t.Errorf("Num(%d): %d, of %d", most, got, v)
			}
			spoiled(t, "Num, above most", r)
		}
	}
}

// nones are bytes of which none begins with a number: ended ahead of a last byte, with a needless last one, and at or beyond 2^64.
func nones() [][]byte {
	endless := func(n int, more ...byte) []byte { return append(bytes.Repeat([]byte{128}, n), more...) }
	return [][]byte{
		{},
		{128},
		{255},
		endless(5),
		endless(9),
		bytes.Repeat([]byte{255}, 9),
		{128, 0},
		{255, 0},
		{129, 128, 0},
		endless(9, 0),
		endless(9, 2),
		endless(9, 127),
		endless(9, 128),
		endless(10),
		endless(10, 1),
		endless(100, 1),
		bytes.Repeat([]byte{255}, 20),
	}
}

// TestReaderNone: PK2, a number that is none is wrong, and so are bytes of which how many they are is none.
func TestReaderNone(t *testing.T) {
	for _, b := range nones() {
		r := pack.New(b)
		if got := r.Num(math.MaxUint64); got != 0 {
			t.Errorf("Num of %x: %d", b, got)
		}
		spoiled(t, "Num of none", r)
		for _, most := range []int{-1, 0, 1, math.MaxInt} {
			r = pack.New(b)
			if got := r.Bytes(most); len(got) != 0 {
				t.Errorf("Bytes(%d) of %x: %x", most, b, got)
			}
			spoiled(t, "Bytes of none", r)
		}
	}
	for _, b := range [][]byte{{128, 0, 1, 2, 3}, {129, 0, 1, 2, 3}} {
		r := pack.New(b)
		if got := r.Bytes(5); len(got) != 0 {
			t.Errorf("Bytes(5) of %x: %x", b, got)
		}
		spoiled(t, "Bytes, with a needless byte ahead", r)
	}
}

// TestReaderBytes: PK2, as many bytes as most, and more; each length, with more behind, and with some missing.
func TestReaderBytes(t *testing.T) {
	for _, n := range []int{0, 1, 2, 40, 127, 128, 504, 2048, 16384} {
		b := slices.Concat(plain(uint64(n)), some(n))
		for _, most := range []int{n, n + 1, 2*n + 1, math.MaxInt} {
			for _, more := range []int{0, 1, 50} {
				r := pack.New(slices.Concat(b, some(more)))
				if got := r.Bytes(most); !bytes.Equal(got, some(n)) {
					t.Errorf("Bytes(%d): %x, not those %d", most, got, n)
				}
				left(t, "Bytes", r, more)
			}
		}
		if n == 0 {
			continue
		}
		for _, most := range []int{math.MinInt, -n, -1, 0, n / 2, n - 1} {
			r := pack.New(slices.Concat(b, some(50)))
			if got := r.Bytes(most); len(got) != 0 {
				t.Errorf("Bytes(%d): %x, of %d", most, got, n)
			}
			spoiled(t, "Bytes, more than most", r)
		}
		for _, cut := range []int{len(b) - n, len(b) - n/2 - 1, len(b) - 1} {
			r := pack.New(b[:cut])
			if got := r.Bytes(math.MaxInt); len(got) != 0 {
				t.Errorf("Bytes, cut at %d: %x, of %d", cut, got, n)
			}
			spoiled(t, "Bytes, cut", r)
		}
	}
}

// TestReaderBytesBelow: PK2, a most below 0 is as 0: no bytes at all are right.
func TestReaderBytesBelow(t *testing.T) {
	for _, most := range []int{math.MinInt, -2, -1, 0} {
		r := pack.New([]byte{0, 7})
		if got := r.Bytes(most); len(got) != 0 {
			t.Errorf("Bytes(%d): %x", most, got)
		}
		left(t, "Bytes, none", r, 1)
		if got := r.Byte(); got != 7 {
			t.Errorf("Byte, behind none: %d, not 7", got)
		}
		left(t, "Byte, behind none", r, 0)
	}
}

// TestReaderBytesGreat: PK2, that there are more bytes than a whole number with a sign can tell is wrong, too.
func TestReaderBytesGreat(t *testing.T) {
	for _, n := range []uint64{51, 1 << 31, 1<<32 + 1, math.MaxInt64, 1 << 63, 1<<63 + 1, math.MaxUint64 - 1, math.MaxUint64} {
		for _, most := range []int{-1, 0, 50, math.MaxInt} {
			r := pack.New(slices.Concat(plain(n), some(50)))
			if got := r.Bytes(most); len(got) != 0 {
				t.Errorf("Bytes(%d): %x, of %d", most, got, n)
			}
			spoiled(t, "Bytes, too many", r)
		}
	}
}

// TestReaderLeft: PK2, how many are left behind each field; what is left is no fault while it is read on.
func TestReaderLeft(t *testing.T) {
	r := pack.New([]byte{5, 0xac, 0x02, 2, 'a', 'b', 0, 9})
	left(t, "all", r, 8)
	if c := r.Byte(); c != 5 {
		t.Errorf("Byte: %d, not 5", c)
	}
	left(t, "behind a byte", r, 7)
	if v := r.Num(300); v != 300 {
		t.Errorf("Num: %d, not 300", v)
	}
	left(t, "behind a number", r, 5)
	if b := r.Bytes(2); string(b) != "ab" {
		t.Errorf("Bytes: %x, not ab", b)
	}
	left(t, "behind bytes", r, 2)
	if b := r.Bytes(2); len(b) != 0 {
		t.Errorf("Bytes: %x, of none", b)
	}
	left(t, "behind no bytes", r, 1)
	if c := r.Byte(); c != 9 {
		t.Errorf("Byte: %d, not 9", c)
	}
	left(t, "at the end", r, 0)
}

// TestReaderShares: rule 3: a reader keeps nothing that was handed in, and what it answers shares nothing with it, or with other answers.
func TestReaderShares(t *testing.T) {
	b := slices.Concat([]byte{3, 'a', 'b', 'c', 0, 2, 'd', 'e', 0}, some(9))
	was := slices.Clone(b)
	r := pack.New(b)
	for i := range b {
		b[i] = 255
	}
	var got [][]byte
	for range 4 {
		got = append(got, r.Bytes(3))
		for _, x := range got {
			apart(t, "Bytes, and what was handed in", x, b)
			x = x[len(x):cap(x)]
			for i := range x {
				x[i] = 254
			}
		}
	}
	for i, want := range []string{"abc", "", "de", ""} {
		if string(got[i]) != want {
			t.Errorf("Bytes: %q, not %q", got[i], want)
		}
		for _, x := range got[:i] {
			apart(t, "Bytes, twice", x, got[i])
		}
	}
	for i, want := range some(9) {
		if c := r.Byte(); c != want {
			t.Errorf("Byte %d behind them: %d, not %d", i, c, want)
		}
	}
	r = pack.New(was)
	keep := slices.Clone(was)
	for range 4 {
		clear(r.Bytes(3))
	}
	if !bytes.Equal(was, keep) {
		t.Errorf("what was handed in is changed: %x, not %x", was, keep)
	}
}
