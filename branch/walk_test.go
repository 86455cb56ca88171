package branch_test

import (
	"slices"
	"testing"

	"warren/branch"
	"warren/varint"
)

// dice throws numbers that are the same each time.
type dice uint32

// under is one below n.
func (d *dice) under(n int) int {
	*d = *d*1664525 + 1013904223
	return int(*d>>8) % n
}

// text is one of from least to most bytes, of which there are few, or any.
func (d *dice) text(least, most int) string {
	b := make([]byte, least+d.under(most-least+1))
	few := d.under(2) == 0
	for i := range b {
		b[i] = byte(d.under(256))
		if few {
			b[i] = "\x00\x01ab\xff"[d.under(5)]
		}
	}
	return string(b)
}

// page is one that may be, and is not among those.
func (d *dice) page(list []int) int {
	for {
		if n := 2 + d.under(1022); !slices.Contains(list, n) {
			return n
		}
	}
}

// fork is one that may be, of which a load has at most 504 bytes.
func (d *dice) fork() branch.Fork {
	var list []string
	for range 1 + d.under(60) {
		list = append(list, d.text(1, []int{1, 2, 40}[d.under(3)]))
	}
	slices.Sort(list)
	f := branch.Fork{Keys: slices.Compact(list)}
	for range len(f.Keys) + 1 {
		f.Kids = append(f.Kids, d.page(f.Kids))
	}
	for len(whole(f)) > 504 {
		f = branch.Fork{Keys: f.Keys[1:], Kids: f.Kids[1:]}
	}
	return f
}

// TestLoadBack: BR3, any forks come back, and the way to a key goes between those not above and those above.
func TestLoadBack(t *testing.T) {
	d := dice(1)
	for range 3000 {
		f := d.fork()
		goes(t, f, whole(f))
		for range 20 {
			k := d.text(0, 3)
			if d.under(2) == 0 {
				k = f.Keys[d.under(len(f.Keys))] + d.text(0, 1)
			}
			want := 0
			for _, other := range f.Keys {
				if other <= k {
					want++
				}
			}
			if at := branch.Way(f.Keys, k); at != want {
				t.Fatalf("Way(%q, %q): %d, not %d", f.Keys, k, at, want)
			}
		}
	}
}

// parse is the fork of a load, and whether it is one, read as the words say; what ends too early panics.
func parse(b string) (f branch.Fork, ok bool) {
	defer func() {
		if recover() != nil {
			f, ok = branch.Fork{}, false
		}
	}()
	if len(b) > 504 {
		return branch.Fork{}, false
	}
	cut := func(n int) string {
		head := b[:n]
		b = b[n:]
		return head
	}
	last, seen := "", map[int]int{}
	for first := true; first || b != ""; first = false {
		if !first {
			n, size, err := varint.Get([]byte(b))
			if err != nil || n > 40 {
				return branch.Fork{}, false
			}
			cut(size)
			k := cut(int(n))
			if k <= last {
				return branch.Fork{}, false
			}
			f.Keys, last = append(f.Keys, k), k
		}
		two := cut(2)
		n := int(two[0])*256 + int(two[1])
		seen[n]++
		if n < 2 || n > 1023 || seen[n] > 1 {
			return branch.Fork{}, false
		}
		f.Kids = append(f.Kids, n)
	}
	return f, len(f.Keys) > 0
}

// other are a load's bytes, of which one is another one, is gone, or is new.
func (d *dice) other(b []byte) []byte {
	at := d.under(len(b))
	switch d.under(3) {
	case 0:
		b[at] = d.text(1, 1)[0]
		return b
	case 1:
		return slices.Delete(b, at, at+1)
	default:
		return slices.Insert(b, at, d.text(1, 1)[0])
	}
}

// TestDecodeModel: BR1, loads of which some bytes are others, are gone, or are new, as the words say; what is a load is one of its fork.
func TestDecodeModel(t *testing.T) {
	d := dice(2)
	loads := 0
	for range 40000 {
		b := []byte(whole(d.fork()))
		for range d.under(3) {
			b = d.other(b)
		}
		want, ok := parse(string(b))
		if !ok {
			formless(t, string(b))
			continue
		}
		loads++
		goes(t, want, string(b))
	}
	if loads < 5000 || loads > 35000 {
		t.Errorf("of all, %d are loads", loads)
	}
}
