package pack

import (
	"slices"

	"warren/api"
	"warren/varint"
)

// Reader takes fields out of bytes.
type Reader struct {
	rest  []byte // what is not taken yet; nothing, once something was wrong
	wrong bool
}

// New is one of bytes.
func New(b []byte) *Reader {
	// What is handed in is not kept, for it may be changed ahead of the reading.
	return &Reader{rest: slices.Clone(b)}
}

// Byte is the next byte.
func (r *Reader) Byte() uint8 {
	b := r.take(1)
	if len(b) == 0 {
		return 0
	}
	return b[0]
}

// Num is the next number, at most so great.
func (r *Reader) Num(most uint64) uint64 {
	if r == nil {
		return 0
	}
	v, size, err := varint.Get(r.rest)
	if err != nil || v > most {
		r.spoil()
		return 0
	}
	r.take(size)
	return v
}

// Bytes are the next ones, at most so many.
func (r *Reader) Bytes(most int) []byte {
	// No number above most comes out, so that it is an int.
	n := int(r.Num(uint64(max(most, 0))))
	return slices.Clone(r.take(n))
}

// Left is how many bytes are left.
func (r *Reader) Left() int {
	if r == nil {
		return 0
	}
	return len(r.rest)
}

// Done is an error, if something was wrong, or is left.
func (r *Reader) Done() error {
	if r == nil || r.wrong || len(r.rest) > 0 {
		return api.ErrForm
	}
	return nil
}

// take are so many of the bytes that are left; if there are fewer, none, and it is wrong.
func (r *Reader) take(n int) []byte {
	if r == nil {
		return nil
	}
	if n > len(r.rest) {
		r.spoil()
		return nil
	}
	b := r.rest[:n]
	r.rest = r.rest[n:]
	return b
}

// spoil marks that something was wrong; of nothing that is left, all that is asked from then on is 0 and nothing.
func (r *Reader) spoil() { *r = Reader{wrong: true} }
