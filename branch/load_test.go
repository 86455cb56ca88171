package branch_test

import (
	"bytes"
	"slices"
	"strings"
	"testing"

	"warren/api"
	"warren/branch"
	"warren/varint"
)

// page are the two bytes of a page's number, the highest first.
func page(n int) string { return string([]byte{byte(n / 256), byte(n)}) }

// key are a key's bytes, as layer 6 puts them.
func key(k string) string { return string(varint.Put(nil, uint64(len(k)))) + k }

// whole are a fork's bytes, told from the words, be it a fork or not.
func whole(f branch.Fork) string {
	var b strings.Builder
	for i, n := range f.Kids {
		if i > 0 {
			b.WriteString(key(f.Keys[i-1]))
		}
		b.WriteString(page(n))
	}
	return b.String()
}

// goes fails, unless a fork is that load, and that load is that fork.
func goes(t *testing.T, f branch.Fork, load string) {
	t.Helper()
	was := clone(f)
	if b, err := branch.Encode(f); err != nil || string(b) != load {
		t.Fatalf("Encode(%#v): %x, %v, not %x", f, b, err, load)
	}
	if !same(f, was) {
		t.Fatalf("Encode changes what was handed in: %#v, not %#v", f, was)
	}
	b := []byte(load)
	if got, err := branch.Decode(b); err != nil || !same(got, was) {
		t.Fatalf("Decode(%x): %#v, %v, not %#v", load, got, err, was)
	}
	if string(b) != load {
		t.Fatalf("Decode changes what was handed in: %x, not %x", b, load)
	}
}

// refused fails, unless Encode answers that error, and nothing beside it.
func refused(t *testing.T, f branch.Fork, want api.Errno) {
	t.Helper()
	was := clone(f)
	b, err := branch.Encode(f)
	wrong(t, "Encode", err, want)
	if b != nil || !same(f, was) {
		t.Errorf("Encode, beside an error: %x", b)
	}
	if t.Failed() {
		t.Fatalf("Encode(%#v)", was)
	}
}

// formless fails, unless Decode answers ErrForm, and nothing beside it.
func formless(t *testing.T, load string) {
	t.Helper()
	b := []byte(load)
	f, err := branch.Decode(b)
	wrong(t, "Decode", err, api.ErrForm)
	if f.Keys != nil || f.Kids != nil || string(b) != load {
		t.Errorf("Decode, beside an error: %#v", f)
	}
	if t.Failed() {
		t.Fatalf("Decode(%x)", load)
	}
}

// TestLoad: BR1, BR3: loads written out; the chapter's example among them.
func TestLoad(t *testing.T) {
	goes(t, branch.Fork{Keys: []string{"b"}, Kids: []int{2, 3}}, "\x00\x02\x01b\x00\x03")
	goes(t, branch.Fork{Keys: []string{"b"}, Kids: []int{3, 2}}, "\x00\x03\x01b\x00\x02")
	goes(t, branch.Fork{Keys: []string{"\x00"}, Kids: []int{1023, 256}}, "\x03\xff\x01\x00\x01\x00")
	goes(t, branch.Fork{Keys: []string{"a", "a\x00", "ab"}, Kids: []int{9, 255, 770, 2}}, "\x00\x09\x01a\x00\xff\x02a\x00\x03\x02\x02ab\x00\x02")
	goes(t, branch.Fork{Keys: []string{text(40), "\xff\xff"}, Kids: []int{300, 4, 5}}, "\x01\x2c\x28"+text(40)+"\x00\x04\x02\xff\xff\x00\x05")
}

// TestLoadEach: BR3, forks of each length of a key, and of each page, come back.
func TestLoadEach(t *testing.T) {
	for n := 1; n <= 40; n++ {
		f := fork(text(n))
		goes(t, f, whole(f))
		f = fork("\x00", text(n), "\xff")
		goes(t, f, whole(f))
		for many := 1; 2+many*(3+n) <= 504; many++ {
			f = fork(rising(n, many)...)
			goes(t, f, whole(f))
		}
	}
	for n := 2; n <= 1022; n++ {
		for _, f := range []branch.Fork{pages(n, 1023), pages(1023, n), pages(n+1, n), pages(n, n+1)} {
			goes(t, f, whole(f))
		}
	}
}

// filled is a fork of which a load has so many bytes, from 6 on; its first key has what the others leave.
func filled(t *testing.T, size int) branch.Fork {
	t.Helper()
	var list []string
	rest := size - 2
	for rest > 3+40 {
		n := min(40, rest-3-4)
		list, rest = append(list, string([]byte{byte(len(list) + 1)})+text(n-1)), rest-3-n
	}
	f := fork(append([]string{strings.Repeat("\x00", rest-3)}, list...)...)
	if got := len(whole(f)); got != size {
		t.Fatalf("the fork of %d bytes has %d", size, got)
	}
	return f
}

// TestLoadLong: BR1, up to 504 bytes, and not one more, of few long keys, or many short ones.
func TestLoadLong(t *testing.T) {
	for size := 6; size <= 504; size++ {
		f := filled(t, size)
		goes(t, f, whole(f))
	}
	many := rising(1, 124)
	for _, last := range []string{"\xff", "\xff\xff", "\xff\xff\xff"} {
		f := fork(append(many, last)...)
		goes(t, f, whole(f))
	}
	for _, f := range []branch.Fork{
		filled(t, 505), filled(t, 506), filled(t, 507), filled(t, 512), filled(t, 600), filled(t, 2000),
		fork(append(many, "\xff\xff\xff\xff")...), fork(rising(1, 126)...), fork(rising(1, 127)...), fork(rising(1, 255)...),
		pages(row(2, 1024)...),
	} {
		checked(t, f, true)
		refused(t, f, api.ErrLong)
		formless(t, whole(f))
	}
}

// bad are forks that may not be, each for another reason, or for more than one.
func bad() []branch.Fork {
	l := []branch.Fork{{}, {Kids: []int{2}}, {Kids: []int{2, 3}}, {Keys: []string{"b"}}, {Keys: []string{"b"}, Kids: []int{2}}, {Keys: []string{"b"}, Kids: []int{2, 3, 4}}, {Keys: []string{"a", "b"}, Kids: []int{2, 3}}}
	for _, list := range unsorted() {
		l = append(l, fork(list...))
	}
	for _, n := range noPages() {
		l = append(l, pages(n, 2), pages(2, n), pages(n, n), pages(2, n, 3))
	}
	l = append(l, pages(2, 2), pages(1023, 1023), pages(2, 3, 2), pages(2, 3, 3), pages(3, 2, 1023, 2))
	return append(l, fork(""), fork("", "a"), fork("a", ""), fork(text(41)), fork("a", strings.Repeat("b", 41), "c"), fork(text(512)))
}

// TestEncodeArg: BR1, what may not be is told, ahead of too many bytes.
func TestEncodeArg(t *testing.T) {
	for _, f := range bad() {
		refused(t, f, api.ErrArg)
	}
	long := pages(row(2, 1024)...)
	for _, at := range []int{0, 1, 200, 1020} {
		f := clone(long)
		f.Keys[at] = ""
		refused(t, f, api.ErrArg)
		f.Keys[at] = strings.Repeat("\xff", 41)
		refused(t, f, api.ErrArg)
		f = clone(long)
		f.Kids[at] = f.Kids[1021]
		refused(t, f, api.ErrArg)
		for _, n := range noPages() {
			f.Kids[at] = n
			refused(t, f, api.ErrArg)
		}
	}
	refused(t, branch.Fork{Keys: long.Keys, Kids: long.Kids[1:]}, api.ErrArg)
	refused(t, branch.Fork{Keys: long.Keys[1:], Kids: long.Kids}, api.ErrArg)
	long.Keys[1020] = long.Keys[1019]
	refused(t, long, api.ErrArg)
}

// TestDecodeBad: BR1, the bytes of what may not be are no load.
func TestDecodeBad(t *testing.T) {
	formless(t, "")
	formless(t, "\x00\x02")
	for _, list := range unsorted() {
		formless(t, whole(fork(list...)))
	}
	for _, list := range [][]int{{0, 2}, {1, 2}, {2, 0}, {2, 1}, {0, 1}, {0, 0}, {1024, 2}, {2, 1024}, {2, 3, 1025}, {2, 2048, 3}, {2, 65535}, {65535, 2}, {2, 2}, {1023, 1023}, {2, 3, 2}, {3, 2, 2}} {
		formless(t, whole(pages(list...)))
	}
	for _, list := range [][]string{{""}, {"", "a"}, {"a", ""}, {text(41)}, {"a", strings.Repeat("b", 41), "c"}, {text(127)}, {text(128)}, {text(499)}} {
		formless(t, whole(fork(list...)))
	}
}

// TestDecodeCut: BR1, a load that is cut is none, but where it ends with a page behind a key; nor is one with more behind it.
func TestDecodeCut(t *testing.T) {
	for _, f := range []branch.Fork{fork("b"), fork(text(40)), fork("a", "ab", "b"), pages(1023, 2, 700, 256), fork(rising(1, 125)...), filled(t, 504)} {
		load := whole(f)
		ends := map[int]bool{}
		for n := 1; n <= len(f.Keys); n++ {
			ends[branch.Size(f.Keys[:n])] = true
		}
		for cut := range len(load) {
			if !ends[cut] {
				formless(t, load[:cut])
			}
		}
		for _, more := range []string{"\x00", "\x01", "\x00\x00", "\xff", "\x01\xff", "\x01\xff\x00", "\x01\xff\x00\x02", "\x00\x03\xff", load, strings.Repeat("\x00", 505-len(load))} {
			formless(t, load+more)
		}
	}
	for n := 2; n <= 600; n++ {
		formless(t, strings.Repeat("\x00", n))
		formless(t, strings.Repeat("\xff", n))
		formless(t, strings.Repeat("\x01", n))
	}
	formless(t, strings.Repeat("\x02", 1<<16))
	if f, err := branch.Decode(nil); f.Keys != nil || f.Kids != nil || err == nil {
		t.Errorf("Decode(nil): %#v, %v", f, err)
	}
}

// TestDecodeNumber: BR1, how many bytes a key has is told by no needless byte, and by none above 40.
func TestDecodeNumber(t *testing.T) {
	for _, bad := range []string{
		"\x80\x00b", "\x81\x00b", "\x81\x80\x00b", "\x80", "\x81", "\x00", "\x00b", "\x02b", "\x29" + text(41), "\x7f" + text(127), "\x80\x01" + text(128),
		"\xff\xff\xff\xff\xff\xff\xff\xff\xff\x01b", "\xff\xff\xff\xff\xff\xff\xff\xff\xff\x02b", "\x80\x80\x80\x80\x80\x80\x80\x80\x80\x80\x00b",
		"\x81\x80\x80\x80\x10b", "\x81\x80\x80\x80\x80\x80\x80\x80\x80\x01b",
	} {
		formless(t, page(2)+bad+page(3))
		formless(t, page(2)+bad+page(3)+key("z")+page(4))
		formless(t, page(2)+key("a")+page(4)+bad+page(3))
		formless(t, page(2)+key("a")+page(4)+bad+page(3)+key("z")+page(5))
	}
}

// TestLoadShares: rule 3: what is answered is new, its spare room too, and hangs on nothing that was handed in.
func TestLoadShares(t *testing.T) {
	f := fork("a", "bc", "d")
	one, _ := branch.Encode(f)
	two, _ := branch.Encode(f)
	want := slices.Clone(two)
	one = one[:cap(one)]
	for i := range one {
		one[i] = 255
	}
	f.Keys[0], f.Kids[0] = "\x00", 99
	if !bytes.Equal(two, want) {
		t.Errorf("Encode, twice: %x, not %x", two, want)
	}
	first, _ := branch.Decode(two)
	second, _ := branch.Decode(two)
	clear(first.Keys[:cap(first.Keys)])
	clear(first.Kids[:cap(first.Kids)])
	clear(two)
	if !same(second, fork("a", "bc", "d")) {
		t.Errorf("Decode, twice: %#v", second)
	}
}
