package leaf_test

import (
	"slices"
	"testing"

	"warren/leaf"
	"warren/varint"
)

// dice throws numbers that are the same each time.
type dice uint32

// under is one below n.
func (d *dice) under(n int) int {
	*d = *d*1664525 + 1013904223
	return int(*d>>8) % n
}

// text is one of from least to most bytes, of which there are few, or any.
func (d *dice) text(least, most int) string {
	b := make([]byte, least+d.under(most-least+1))
	few := d.under(2) == 0
	for i := range b {
		b[i] = byte(d.under(256))
		if few {
			b[i] = "\x00\x01ab\xff"[d.under(5)]
		}
	}
	return string(b)
}

// cell is one of that key.
func (d *dice) cell(key string) leaf.Cell {
	switch d.under(4) {
	case 0:
		return away(key, 65+d.under(1984), 2+d.under(1022))
	case 1:
		return lies(key, d.text(60, 64))
	default:
		return lies(key, d.text(0, 4))
	}
}

// cells are some, of which a load has at most 504 bytes; the keys ascend.
func (d *dice) cells() []leaf.Cell {
	var list []string
	for range d.under(30) {
		list = append(list, d.text(1, []int{1, 2, 40}[d.under(3)]))
	}
	slices.Sort(list)
	var l []leaf.Cell
	for _, key := range slices.Compact(list) {
		l = append(l, d.cell(key))
	}
	for len(whole(len(l), l...)) > 504 {
		l = l[1:]
	}
	return l
}

// TestLoadBack: LF3, any cells come back, and each one is found at its place.
func TestLoadBack(t *testing.T) {
	d := dice(1)
	for range 3000 {
		l := d.cells()
		goes(t, l, whole(len(l), l...))
		for i, c := range l {
			if at, ok := leaf.Find(l, c.Key); at != i || !ok {
				t.Fatalf("Find(%#v, %q): %d, %v", l, c.Key, at, ok)
			}
		}
	}
}

// parse are the cells of a load, and whether it is one, read as the words say; what ends too early panics.
func parse(b string) (l []leaf.Cell, ok bool) {
	defer func() {
		if recover() != nil {
			l, ok = nil, false
		}
	}()
	if len(b) > 504 {
		return nil, false
	}
	cut := func(n int) string {
		head := b[:n]
		b = b[n:]
		return head
	}
	num := func() int {
		v, size, err := varint.Get([]byte(b))
		if err != nil {
			panic(err)
		}
		cut(size)
		return int(min(v, 1<<20))
	}
	last := ""
	for n := num(); n > 0; n-- {
		c := leaf.Cell{Key: cut(num()), Long: num()}
		if c.Long <= 64 {
			c.Value = cut(c.Long)
		} else {
			c.Page = int(b[0])*256 + int(b[1])
			cut(2)
			ok = c.Page < 2 || c.Page > 1023
		}
		if ok || c.Key <= last || len(c.Key) > 40 || c.Long > 2048 {
			return nil, false
		}
		l, last = append(l, c), c.Key
	}
	return l, b == ""
}

// TestDecodeModel: LF2, loads of which some bytes are others, are gone, or are new, as the words say; what is a load is one of its cells.
func TestDecodeModel(t *testing.T) {
	d := dice(2)
	loads := 0
	for range 40000 {
		l := d.cells()
		b := []byte(whole(len(l), l[:min(len(l), d.under(40))]...))
		for range d.under(3) {
			at := d.under(len(b))
			switch d.under(3) {
			case 0:
				b[at] = d.text(1, 1)[0]
			case 1:
				b = slices.Delete(b, at, at+1)
				b = append(b, d.text(0, 1)...)
			default:
				b = slices.Insert(b, at, d.text(1, 1)[0])
			}
			if len(b) == 0 {
				break
			}
		}
		want, ok := parse(string(b))
		if !ok {
			formless(t, string(b))
			continue
		}
		loads++
		goes(t, want, string(b))
	}
	if loads < 5000 || loads > 35000 {
		t.Errorf("of all, %d are loads", loads)
	}
}
