package branch

import (
	"warren/api"
	"warren/ints"
	"warren/pack"
)

// Encode is a fork as a load.
func Encode(f Fork) ([]byte, error) {
	if Check(f) != nil {
		return nil, api.ErrArg
	}
	if Size(f.Keys) > api.Load {
		return nil, api.ErrLong
	}
	b := put(nil, f.Kids[0])
	for i, key := range f.Keys {
		b = put(pack.Bytes(b, []byte(key)), f.Kids[i+1])
	}
	return b, nil
}

// put are bytes with a page's number behind.
func put(b []byte, page int) []byte { return ints.Put(b, uint64(page), pageSize) }

// Decode is the fork of a load.
func Decode(b []byte) (Fork, error) {
	if len(b) > api.Load {
		return Fork{}, api.ErrForm
	}
	r := pack.New(b)
	f := Fork{Kids: []int{take(r)}}
	// It ends, for a key takes bytes, and where something is wrong nothing is left.
	for r.Left() > 0 {
		f.Keys = append(f.Keys, string(r.Bytes(api.MaxKey)))
		f.Kids = append(f.Kids, take(r))
	}
	if r.Done() != nil || Check(f) != nil {
		return Fork{}, api.ErrForm
	}
	return f, nil
}

// take is the number of the next page; 0, if the reader has too few bytes, and tells it.
func take(r *pack.Reader) int {
	// So few bytes are a number whatever they are, so that there is no error.
	page, _ := ints.Get([]byte{r.Byte(), r.Byte()})
	return int(page)
}
