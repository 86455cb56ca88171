package branch_test

import (
	"errors"
	"math"
	"slices"
	"strings"
	"testing"

	"warren/api"
	"warren/branch"
)

// wrong fails, unless an error's number is that one.
func wrong(t *testing.T, what string, err error, want api.Errno) {
	t.Helper()
	var no api.Errno
	if !errors.As(err, &no) || no != want {
		t.Errorf("%s: %v, not %v", what, err, want)
	}
}

// checked fails, unless Check answers nil for what may be a fork, and ErrArg for what may not; and unless the fork stays as it is.
func checked(t *testing.T, f branch.Fork, may bool) {
	t.Helper()
	was := clone(f)
	err := branch.Check(f)
	if !may {
		wrong(t, "Check", err, api.ErrArg)
	} else if err != nil {
		t.Errorf("Check: %v", err)
	}
	if !same(f, was) {
		t.Errorf("Check changes what was handed in")
	}
	if t.Failed() {
		t.Fatalf("the fork: %#v", was)
	}
}

// clone is a fork like another one.
func clone(f branch.Fork) branch.Fork {
	return branch.Fork{Keys: slices.Clone(f.Keys), Kids: slices.Clone(f.Kids)}
}

// same tells whether two forks have the same keys and pages.
func same(a, b branch.Fork) bool {
	return slices.Equal(a.Keys, b.Keys) && slices.Equal(a.Kids, b.Kids)
}

// text are so many bytes, one unlike the next one.
func text(n int) string {
	b := make([]byte, n)
	for i := range b {
		b[i] = byte(37*i + 5)
	}
	return string(b)
}

// fork is one of those keys; its pages begin at 2.
func fork(list ...string) branch.Fork {
	f := branch.Fork{Keys: list, Kids: []int{2}}
	for i := range list {
		f.Kids = append(f.Kids, 3+i)
	}
	return f
}

// pages is a fork of those pages, with keys of two bytes between.
func pages(list ...int) branch.Fork {
	f := branch.Fork{Kids: list}
	for i := 1; i < len(list); i++ {
		f.Keys = append(f.Keys, string([]byte{byte(i >> 8), byte(i)}))
	}
	return f
}

// row are the numbers from one up to ahead of another.
func row(from, to int) []int {
	var l []int
	for n := from; n < to; n++ {
		l = append(l, n)
	}
	return l
}

// TestCheck: BR1, what may be a fork: one key or many, keys of each length, pages in any order, from the least to the greatest.
func TestCheck(t *testing.T) {
	for n := 1; n <= 40; n++ {
		checked(t, fork(text(n)), true)
		checked(t, fork(strings.Repeat("\x00", n)), true)
		checked(t, fork(strings.Repeat("\xff", n)), true)
	}
	checked(t, fork("\x00", "\x00\x00", "B", "a", "a\x00", "ab", "b", "\x7f", "\x80", "é", "\xff", "\xff\xff"), true)
	for _, list := range [][]int{{2, 3}, {3, 2}, {1022, 1023}, {1023, 1022}, {2, 1023}, {1023, 2}, {512, 511, 513}, {255, 256, 254, 1000}} {
		checked(t, pages(list...), true)
	}
	all := row(2, 1024)
	checked(t, pages(all...), true)
	slices.Reverse(all)
	checked(t, pages(all...), true)
}

// TestCheckCount: BR1, at least one key, and one page more than keys.
func TestCheckCount(t *testing.T) {
	checked(t, branch.Fork{}, false)
	checked(t, branch.Fork{Keys: []string{}, Kids: []int{}}, false)
	for kids := range 8 {
		for list := range 8 {
			f := branch.Fork{Keys: fork("a", "b", "c", "d", "e", "f", "g", "h").Keys[:list], Kids: row(2, 2+kids)}
			checked(t, f, list > 0 && kids == list+1)
		}
	}
	all := pages(row(2, 1024)...)
	checked(t, branch.Fork{Keys: all.Keys, Kids: all.Kids[1:]}, false)
	checked(t, branch.Fork{Keys: all.Keys[1:], Kids: all.Kids}, false)
	checked(t, branch.Fork{Keys: all.Keys}, false)
	checked(t, branch.Fork{Kids: all.Kids}, false)
}

// TestCheckKey: BR1, keys that may not be, wherever they stand.
func TestCheckKey(t *testing.T) {
	for _, bad := range []string{"", text(41), strings.Repeat("m", 41), strings.Repeat("\x00", 41), strings.Repeat("\xff", 42), text(504), text(1 << 16)} {
		checked(t, fork(bad), false)
		for _, list := range [][]string{{"a"}, {"a", "z"}, {"\x00", "b", "\xff"}, pages(row(2, 300)...).Keys} {
			for at := range len(list) + 1 {
				checked(t, fork(slices.Insert(slices.Clone(list), at, bad)...), false)
			}
			// Where it stands by its bytes, too, so that the keys ascend.
			all := append(slices.Clone(list), bad)
			slices.Sort(all)
			checked(t, fork(all...), false)
		}
	}
}

// unsorted are rows of keys that don't ascend: two are the same, or one is below the one ahead of it, by its bytes.
func unsorted() [][]string {
	return [][]string{
		{"a", "a"}, {"b", "a"}, {"ab", "a"}, {"a\x00", "a"}, {"a", "\x00"}, {"\xff", "\x7f"}, {"\x80", "\x7f"}, {"é", "z"}, {"b", "B"},
		{"a", "b", "b"}, {"a", "a", "b"}, {"a", "c", "b"}, {"b", "a", "c"}, {"a", "b", "a"}, {"a", "b", "c", "d", "d"}, {"a", "b", "c", "e", "d"},
		{"\x00", "\x00"}, {text(40), text(40)}, {strings.Repeat("k", 40), strings.Repeat("k", 39)},
	}
}

// TestCheckOrder: BR1, keys that don't ascend.
func TestCheckOrder(t *testing.T) {
	for _, list := range unsorted() {
		checked(t, fork(list...), false)
	}
	good := pages(row(2, 200)...)
	for i := 1; i < len(good.Keys); i++ {
		f := clone(good)
		f.Keys[i] = f.Keys[i-1]
		checked(t, f, false)
		f = clone(good)
		f.Keys[i], f.Keys[i-1] = f.Keys[i-1], f.Keys[i]
		checked(t, f, false)
	}
}

// noPages are numbers that no page of a tree has.
func noPages() []int {
	return []int{math.MinInt, -65534, -1024, -2, -1, 0, 1, 1024, 1025, 2048, 65536, 65538, 1<<32 + 2, math.MaxInt}
}

// TestCheckPage: BR1, each page that may be, and those that may not, wherever they stand.
func TestCheckPage(t *testing.T) {
	for page := range 1024 {
		checked(t, pages(page, 777), page >= 2 && page != 777)
		checked(t, pages(777, page), page >= 2 && page != 777)
	}
	for _, bad := range noPages() {
		for _, n := range []int{2, 3, 4, 200} {
			for at := range n {
				l := row(2, 2+n)
				l[at] = bad
				checked(t, pages(l...), false)
			}
		}
	}
}

// TestCheckTwice: BR1, no two pages are the same, whichever they are, and wherever they stand.
func TestCheckTwice(t *testing.T) {
	for _, n := range []int{2, 3, 4, 40} {
		for i := range n {
			for j := range i {
				for _, page := range []int{2, 3, 500, 1022, 1023} {
					l := row(100, 100+n)
					l[i] = page
					checked(t, pages(l...), true)
					l[j] = page
					checked(t, pages(l...), false)
				}
			}
		}
	}
	checked(t, pages(append(row(2, 1024), 2)...), false)
	checked(t, pages(append(row(2, 1024), 1023)...), false)
	checked(t, pages(append(row(2, 1024), row(2, 1024)...)...), false)
}

// TestSize: BR1, written out; be they a fork's keys or not.
func TestSize(t *testing.T) {
	for _, c := range []struct {
		list []string
		want int
	}{
		{nil, 2}, {[]string{}, 2}, {[]string{"b"}, 6}, {[]string{"ab"}, 7}, {[]string{"a", "b"}, 10}, {[]string{"a", "bc", "d"}, 15},
		{[]string{text(40)}, 45}, {[]string{text(39), text(40)}, 87}, {[]string{"é"}, 7}, {[]string{"\x00"}, 6},
		{[]string{""}, 5}, {[]string{"", ""}, 8}, {[]string{"b", "a", "a"}, 14}, {[]string{text(41)}, 46},
		{[]string{text(127)}, 132}, {[]string{text(128)}, 133}, {[]string{text(1 << 16)}, 65541}, {make([]string, 1<<16), 196610},
	} {
		if got := branch.Size(c.list); got != c.want {
			t.Errorf("Size, of %d keys: %d, not %d", len(c.list), got, c.want)
		}
	}
}

// TestSizeEncode: BR1, as many bytes as a load of those keys has.
func TestSizeEncode(t *testing.T) {
	for n := 1; n <= 40; n++ {
		for many := 1; 2+many*(3+n) <= 504; many++ {
			list := rising(n, many)
			b, err := branch.Encode(fork(list...))
			if got := branch.Size(list); err != nil || got != len(b) {
				t.Fatalf("Size, of %d keys of %d bytes: %d; of the load: %d, %v", many, n, got, len(b), err)
			}
		}
	}
}

// rising are so many keys that ascend, up to 255, of so many bytes each.
func rising(n, many int) []string {
	var list []string
	for i := range many {
		list = append(list, string([]byte{byte(i + 1)})+text(n-1))
	}
	return list
}

// TestWay: BR2, each key, and those between, ahead and behind, whether a key may be or not, among each few keys.
func TestWay(t *testing.T) {
	all := []string{"", "\x00", "a", "a\x00", "ab", "b", "\x7f", "\x80", "\xff", "\xff\xff", strings.Repeat("\xff", 50)}
	for set := range 1 << len(all) {
		var list []string
		for i, key := range all {
			if set>>i&1 == 1 {
				list = append(list, key)
			}
		}
		was, below := slices.Clone(list), 0
		for i, key := range all {
			if set>>i&1 == 1 {
				below++
			}
			if at := branch.Way(list, key); at != below {
				t.Fatalf("Way(%q, %q): %d, not %d", list, key, at, below)
			}
		}
		if !slices.Equal(list, was) {
			t.Fatalf("Way changes what was handed in: %q, not %q", list, was)
		}
	}
}

// TestWayMany: BR2, BR3, each place among so many keys: what is not above goes ahead of it, what is above behind.
func TestWayMany(t *testing.T) {
	key := func(i int) string { return string([]byte{byte(i >> 8), byte(i)}) }
	var list []string
	for n := range 300 {
		for i := range 2*n + 2 {
			at := branch.Way(list, key(i))
			if at != min(n, (i+1)/2) {
				t.Fatalf("Way, of %d keys, %d: %d", n, i, at)
			}
			if at > 0 && list[at-1] > key(i) || at < n && list[at] <= key(i) {
				t.Fatalf("Way, of %d keys, %d: %d doesn't part them", n, i, at)
			}
		}
		list = append(list, key(2*n+1))
	}
}

// TestWayWrong: rule 1: of keys that don't ascend, too, it answers a place.
func TestWayWrong(t *testing.T) {
	for _, list := range append(unsorted(), []string{"", ""}, []string{"b", "", "a"}) {
		for _, key := range []string{"", "a", "b", "\xff", text(100)} {
			if at := branch.Way(list, key); at < 0 || at > len(list) {
				t.Errorf("Way(%q, %q): %d", list, key, at)
			}
		}
	}
}
