package tree_test

import (
	"errors"
	"slices"
	"strconv"
	"strings"
	"testing"

	"warren/api"
	"warren/tree"
)

// pairs are entries, a key and a value each.
func pairs(words ...string) []api.Entry {
	var l []api.Entry
	for i := 0; i < len(words); i += 2 {
		l = append(l, api.Entry{Key: words[i], Value: words[i+1]})
	}
	return l
}

// many are so many entries with other keys.
func many(n int) []api.Entry {
	var l []api.Entry
	for i := range n {
		l = append(l, api.Entry{Key: "k" + strconv.Itoa(10000+i), Value: "v" + strconv.Itoa(i)})
	}
	return l
}

// of is a tree of entries, of which none is wrong.
func of(t *testing.T, l []api.Entry) tree.Tree {
	t.Helper()
	u, err := tree.Of(l)
	if err != nil {
		t.Fatalf("Of, %d entries: %v", len(l), err)
	}
	return u
}

// put is a tree with an entry that may be put.
func put(t *testing.T, u tree.Tree, key, value string) tree.Tree {
	t.Helper()
	v, err := tree.Put(u, key, value)
	if err != nil {
		t.Fatalf("Put(%q, %d bytes): %v", key, len(value), err)
	}
	return v
}

// has fails, unless a tree is right, and has just those entries, whatever asks for them.
func has(t *testing.T, u tree.Tree, want []api.Entry) {
	t.Helper()
	if got := tree.All(u); !slices.Equal(got, want) {
		t.Fatalf("All: %.300q, not %.300q", got, want)
	}
	if n := tree.Len(u); n != len(want) {
		t.Fatalf("Len: %d, not %d", n, len(want))
	}
	for _, e := range want {
		if value, ok := tree.Get(u, e.Key); value != e.Value || !ok {
			t.Fatalf("Get(%q): %.80q, %v, not %.80q", e.Key, value, ok, e.Value)
		}
	}
	if fault := tree.Fault(u); fault != "" {
		t.Fatalf("of %d entries: %s", len(want), fault)
	}
}

// lacks fails, unless a key is not there.
func lacks(t *testing.T, u tree.Tree, key string) {
	t.Helper()
	if value, ok := tree.Get(u, key); value != "" || ok {
		t.Fatalf("Get(%q): %.80q, %v", key, value, ok)
	}
	was := tree.All(u)
	v, ok := tree.Delete(u, key)
	if ok {
		t.Fatalf("Delete(%q): it was there", key)
	}
	has(t, v, was)
}

// refused fails, unless an error is that one, and the tree beside it empty.
func refused(t *testing.T, u tree.Tree, err error, want api.Errno) {
	t.Helper()
	var no api.Errno
	if !errors.As(err, &no) || no != want {
		t.Fatalf("%v, not %v", err, want)
	}
	has(t, u, nil)
	if tree.Height(u) != 0 {
		t.Fatalf("beside an error, a tree of height %d", tree.Height(u))
	}
}

// TestEmpty: TR1, TR2, the empty tree.
func TestEmpty(t *testing.T) {
	for _, u := range []tree.Tree{{}, of(t, nil), of(t, []api.Entry{})} {
		has(t, u, nil)
		for _, key := range []string{"", "\x00", "a", strings.Repeat("a", 40), strings.Repeat("a", 41)} {
			lacks(t, u, key)
		}
		if tree.Height(u) != 0 {
			t.Errorf("Height: %d", tree.Height(u))
		}
	}
}

// TestWritten: TR1, written out.
func TestWritten(t *testing.T) {
	u := put(t, tree.Tree{}, "b", "x")
	has(t, u, pairs("b", "x"))
	u = put(t, u, "a", "y")
	has(t, u, pairs("a", "y", "b", "x"))
	u = put(t, u, "b", "")
	has(t, u, pairs("a", "y", "b", ""))
	u = put(t, u, "ab", "\x00\xff")
	has(t, u, pairs("a", "y", "ab", "\x00\xff", "b", ""))
	u = put(t, u, "a", "y")
	has(t, u, pairs("a", "y", "ab", "\x00\xff", "b", ""))
	for _, key := range []string{"", "\x00", "A", "a\x00", "aa", "aba", "ac", "b\x00", "c", "\xff", strings.Repeat("a", 41)} {
		lacks(t, u, key)
	}
	u, ok := tree.Delete(u, "ab")
	if !ok {
		t.Errorf("Delete: it was not there")
	}
	has(t, u, pairs("a", "y", "b", ""))
	lacks(t, u, "ab")
}

// TestOrder: TR1, keys stand in the order of their bytes: these are no runes, and one that another begins with stands ahead of it.
func TestOrder(t *testing.T) {
	want := pairs("\x00", "0", "\x00\x00", "1", "\x01", "2", "A", "3", "a", "4", "a\x00", "5", "aa", "6", "a\xff", "7", "b", "8", "é", "9", "\xc3\xaa", "10", "\xfe", "11", "\xff", "12", "\xff\x00", "13", strings.Repeat("\xff", 40), "14")
	for i := range want {
		turned := slices.Concat(want[i:], want[:i])
		has(t, of(t, turned), want)
		slices.Reverse(turned)
		has(t, of(t, turned), want)
	}
}

// TestPutSizes: TR1, each size of a key and of a value that may be, and those that may not; a key that may not be is told first.
func TestPutSizes(t *testing.T) {
	ahead := of(t, pairs("m", "1", "n", "2"))
	for _, size := range []int{0, 1, 2, 39, 40, 41, 42, 64, 127, 128, 255, 256, 296, 1 << 16} {
		key := strings.Repeat("x", size)
		for _, long := range []int{0, 1, 63, 64, 65, 127, 128, 502, 503, 2047, 2048, 2049, 2050, 4096, 1 << 16} {
			value := strings.Repeat("y", long)
			u, err := tree.Put(ahead, key, value)
			v, also := tree.Of(slices.Concat(pairs("m", "1", "n", "2"), pairs(key, value)))
			switch {
			case size < 1 || size > 40:
				refused(t, u, err, api.ErrArg)
				refused(t, v, also, api.ErrArg)
			case long > 2048:
				refused(t, u, err, api.ErrLong)
				refused(t, v, also, api.ErrLong)
			default:
				has(t, u, pairs("m", "1", "n", "2", key, value))
				has(t, v, pairs("m", "1", "n", "2", key, value))
			}
		}
	}
	has(t, ahead, pairs("m", "1", "n", "2"))
}

// TestPutFull: TR1, 4,096 entries may be, one more may not, one that is there may be put anew, and one that is gone leaves room.
func TestPutFull(t *testing.T) {
	l := many(4096)
	u := of(t, l)
	has(t, u, l)
	for _, key := range []string{"a", "k10000\x00", "k12000a", "k9", "z"} {
		v, err := tree.Put(u, key, "")
		refused(t, v, err, api.ErrFull)
		v, err = tree.Put(u, key, strings.Repeat("y", 2048))
		refused(t, v, err, api.ErrFull)
		v, err = tree.Put(u, key, strings.Repeat("y", 2049))
		refused(t, v, err, api.ErrLong)
	}
	v, err := tree.Put(u, "", "")
	refused(t, v, err, api.ErrArg)
	v, err = tree.Put(u, strings.Repeat("a", 41), "")
	refused(t, v, err, api.ErrArg)
	v, err = tree.Put(u, l[7].Key, strings.Repeat("y", 2049))
	refused(t, v, err, api.ErrLong)
	for _, at := range []int{0, 1, 2047, 4095} {
		for _, value := range []string{l[at].Value, "", "other", strings.Repeat("y", 2048)} {
			want := slices.Clone(l)
			want[at].Value = value
			has(t, put(t, u, l[at].Key, value), want)
		}
		less, ok := tree.Delete(u, l[at].Key)
		if !ok {
			t.Fatalf("Delete(%q): it was not there", l[at].Key)
		}
		has(t, less, slices.Delete(slices.Clone(l), at, at+1))
		has(t, put(t, less, "z", "y"), append(slices.Delete(slices.Clone(l), at, at+1), api.Entry{Key: "z", Value: "y"}))
	}
}

// TestOf: TR1, entries one by one: of two of one key the last one counts, and of errors the first one.
func TestOf(t *testing.T) {
	has(t, of(t, pairs("b", "1", "a", "2", "b", "3", "a", "", "c", "4", "b", "5")), pairs("a", "", "b", "5", "c", "4"))
	bad, long := pairs("", "")[0], api.Entry{Key: "z", Value: strings.Repeat("y", 2049)}
	good := pairs("b", "1", "a", "2", "b", "3")
	for at := range 4 {
		for behind := at; behind < 4; behind++ {
			u, err := tree.Of(slices.Insert(slices.Insert(slices.Clone(good), behind, long), at, bad))
			refused(t, u, err, api.ErrArg)
			u, err = tree.Of(slices.Insert(slices.Insert(slices.Clone(good), behind, bad), at, long))
			refused(t, u, err, api.ErrLong)
		}
	}
}

// TestOfFull: TR1, as many as there may be, in any order, and one more, ahead of an error and behind one.
func TestOfFull(t *testing.T) {
	l := many(4097)
	full := l[:4096]
	turned := slices.Clone(full)
	slices.Reverse(turned)
	has(t, of(t, turned), full)
	// Those that are there already make it no fuller.
	has(t, of(t, slices.Concat(full, full, turned)), full)
	u, err := tree.Of(l)
	refused(t, u, err, api.ErrFull)
	bad, long := pairs("", "")[0], api.Entry{Key: "z", Value: strings.Repeat("y", 2049)}
	u, err = tree.Of(append(slices.Clone(l), bad))
	refused(t, u, err, api.ErrFull)
	u, err = tree.Of(slices.Insert(slices.Clone(l), 4096, bad))
	refused(t, u, err, api.ErrArg)
	u, err = tree.Of(slices.Insert(slices.Clone(l), 4096, long))
	refused(t, u, err, api.ErrLong)
}

// TestOfKept: what is handed in is not changed, and not kept.
func TestOfKept(t *testing.T) {
	l := many(300)
	slices.Reverse(l)
	was := slices.Clone(l)
	u := of(t, l)
	if !slices.Equal(l, was) {
		t.Errorf("Of changes what was handed in")
	}
	clear(l)
	has(t, u, many(300))
}

// TestAllNew: rule 3: a list that was answered is nobody else's, its spare room too.
func TestAllNew(t *testing.T) {
	for _, n := range []int{1, 3, 300} {
		u := of(t, many(n))
		one, two := tree.All(u), tree.All(u)
		clear(one[:cap(one)])
		if !slices.Equal(two, many(n)) {
			t.Errorf("All, twice, of %d entries: they share", n)
		}
		has(t, u, many(n))
		has(t, put(t, u, "a", "x"), slices.Insert(many(n), 0, api.Entry{Key: "a", Value: "x"}))
	}
}

// TestDeleteOrders: TR1, TR3, seven great entries put in each order, and deleted in another one, down to none.
func TestDeleteOrders(t *testing.T) {
	l := pairs("a", strings.Repeat("1", 64), "b", strings.Repeat("2", 65), "c", strings.Repeat("3", 60), "d", strings.Repeat("4", 64), "e", "", "f", strings.Repeat("6", 63), "g", strings.Repeat("7", 64))
	for i := range l {
		l[i].Key += strings.Repeat("x", 39)
	}
	orders(slices.Clone(l), 0, func(row []api.Entry) {
		u := of(t, row)
		has(t, u, l)
		left := slices.Clone(l)
		for i := range row {
			e := row[(i*3+2)%len(row)]
			v, ok := tree.Delete(u, e.Key)
			if !ok {
				t.Fatalf("Delete(%q): it was not there", e.Key)
			}
			has(t, u, left)
			left = slices.DeleteFunc(slices.Clone(left), func(other api.Entry) bool { return other == e })
			has(t, v, left)
			lacks(t, v, e.Key)
			u = v
		}
		if tree.Height(u) != 0 {
			t.Fatalf("of no entries, Height: %d", tree.Height(u))
		}
	})
}

// orders hands each order of what stands from a place on, behind what stands ahead of it, on.
func orders(row []api.Entry, at int, to func([]api.Entry)) {
	if at == len(row) {
		to(row)
		return
	}
	for i := at; i < len(row); i++ {
		row[at], row[i] = row[i], row[at]
		orders(row, at+1, to)
		row[at], row[i] = row[i], row[at]
	}
}

// TestHeight: TR2: what one leaf holds has one, unless it is enough for two leaves; what it does not hold has more; what is none has none.
func TestHeight(t *testing.T) {
	// Each cell has 10 bytes, and the load one more.
	for n, heights := range map[int][]int{0: {0}, 1: {1}, 2: {1}, 24: {1}, 25: {1, 2}, 50: {1, 2}, 51: {2}, 60: {2}} {
		var l []api.Entry
		for i := range n {
			l = append(l, api.Entry{Key: "k" + strconv.Itoa(100+i), Value: "abcd"})
		}
		u := of(t, l)
		if got := tree.Height(u); !slices.Contains(heights, got) {
			t.Errorf("Height, of %d entries: %d, not one of %v", n, got, heights)
		}
		for _, e := range l {
			u, _ = tree.Delete(u, e.Key)
			if got := tree.Height(u); got == 0 != (tree.Len(u) == 0) || got > 1 && tree.Len(u) < 25 {
				t.Errorf("Height, of %d entries that are left of %d: %d", tree.Len(u), n, got)
			}
		}
	}
}

// TestWalkFrom: what stands above goes through a tree from a key on: all that is not below it comes, in order, till it is told to end.
func TestWalkFrom(t *testing.T) {
	for _, n := range []int{0, 1, 2, 60, 700, 3000} {
		l := many(n)
		u := of(t, l)
		for _, from := range []string{"", "\x00", "k", "k10000", "k10000\x00", "k10001", "k10031", "k10059", "k1006", "k10699", "k10699\x00", "k107", "l", strings.Repeat("k", 41), "\xff"} {
			want := slices.DeleteFunc(many(n), func(e api.Entry) bool { return e.Key < from })
			for _, most := range []int{1, 2, 3, 40, 699, 701} {
				var got []api.Entry
				tree.Walk(u, from, func(e api.Entry) bool {
					got = append(got, e)
					return len(got) < most
				})
				if !slices.Equal(got, want[:min(most, len(want))]) {
					t.Fatalf("Walk, of %d entries from %q on, %d of them: %.200q", n, from, most, got)
				}
			}
		}
		has(t, u, l)
	}
}
