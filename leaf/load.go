package leaf

import (
	"slices"

	"warren/api"
	"warren/ints"
	"warren/pack"
	"warren/varint"
)

// Encode are cells as a load.
func Encode(l []Cell) ([]byte, error) {
	if slices.ContainsFunc(l, func(c Cell) bool { return Check(c) != nil }) {
		return nil, api.ErrArg
	}
	if !ascend(l) {
		return nil, api.ErrOrder
	}
	// Told ahead of the writing, which would take long for a list that is far too long.
	if size(l) > api.Load {
		return nil, api.ErrLong
	}
	b := pack.Num(nil, uint64(len(l)))
	for _, c := range l {
		b = put(b, c)
	}
	return b, nil
}

// ascend tells whether each cell's key is above the one ahead of it.
func ascend(l []Cell) bool {
	for i := 1; i < len(l); i++ {
		if l[i].Key <= l[i-1].Key {
			return false
		}
	}
	return true
}

// size is how many bytes a load of those cells has.
func size(l []Cell) int {
	n := varint.Size(uint64(len(l)))
	for _, c := range l {
		n += Size(c.Key, c.Long)
	}
	return n
}

// put are bytes with a cell's behind.
func put(b []byte, c Cell) []byte {
	b = pack.Bytes(b, []byte(c.Key))
	b = pack.Num(b, uint64(c.Long))
	if isInline(c.Long) {
		return slices.Concat(b, []byte(c.Value))
	}
	return ints.Put(b, uint64(c.Page), pageSize)
}

// Decode are the cells of a load.
func Decode(b []byte) ([]Cell, error) {
	if len(b) > api.Load {
		return nil, api.ErrForm
	}
	r := pack.New(b)
	var l []Cell
	// Each cell has bytes, so that a number above Load tells more cells than a load can have.
	for range r.Num(api.Load) {
		c := take(r)
		if Check(c) != nil {
			return nil, api.ErrForm
		}
		l = append(l, c)
	}
	if r.Done() != nil || !ascend(l) {
		return nil, api.ErrForm
	}
	return l, nil
}

// take is the next cell; if something is wrong, what is none, or the reader tells it.
func take(r *pack.Reader) Cell {
	c := Cell{Key: string(r.Bytes(api.MaxKey)), Long: int(r.Num(api.MaxValue))}
	if isInline(c.Long) {
		c.Value = string(plain(r, c.Long))
		return c
	}
	// Two bytes are a number whatever they are, so that there is no error.
	page, _ := ints.Get(plain(r, pageSize))
	c.Page = int(page)
	return c
}

// plain are so many bytes, of which none tells how many there are.
func plain(r *pack.Reader, n int) []byte {
	b := make([]byte, n)
	for i := range b {
		b[i] = r.Byte()
	}
	return b
}
