package leaf_test

import (
	"bytes"
	"math"
	"slices"
	"strings"
	"testing"

	"warren/api"
	"warren/leaf"
	"warren/varint"
)

// cell are a cell's bytes, told from the words, be it a cell or not.
func cell(c leaf.Cell) string {
	head := number(len(c.Key)) + c.Key + number(c.Long)
	if c.Long <= 64 {
		return head + c.Value
	}
	return head + string([]byte{byte(c.Page / 256), byte(c.Page)})
}

// number is one as layer 3 puts it.
func number(n int) string { return string(varint.Put(nil, uint64(n))) }

// whole are so many cells' bytes, as they say.
func whole(n int, l ...leaf.Cell) string {
	b := number(n)
	for _, c := range l {
		b += cell(c)
	}
	return b
}

// goes fails, unless cells are that load, and that load is those cells.
func goes(t *testing.T, l []leaf.Cell, load string) {
	t.Helper()
	was := slices.Clone(l)
	if b, err := leaf.Encode(l); err != nil || string(b) != load {
		t.Fatalf("Encode(%#v): %x, %v, not %x", l, b, err, load)
	}
	if !slices.Equal(l, was) {
		t.Fatalf("Encode changes what was handed in: %#v, not %#v", l, was)
	}
	b := []byte(load)
	if got, err := leaf.Decode(b); err != nil || !slices.Equal(got, was) {
		t.Fatalf("Decode(%x): %#v, %v, not %#v", load, got, err, was)
	}
	if string(b) != load {
		t.Fatalf("Decode changes what was handed in: %x, not %x", b, load)
	}
}

// TestLoad: LF1, LF2, LF3: loads written out; the chapter's example among them.
func TestLoad(t *testing.T) {
	goes(t, nil, "\x00")
	goes(t, []leaf.Cell{}, "\x00")
	goes(t, []leaf.Cell{lies("a", "xy")}, "\x01\x01a\x02xy")
	goes(t, []leaf.Cell{lies("\x00", "")}, "\x01\x01\x00\x00")
	goes(t, []leaf.Cell{lies("a", ""), lies("a\x00", "\x00"), lies("ab", "z")}, "\x03\x01a\x00\x02a\x00\x01\x00\x02ab\x01z")
	goes(t, []leaf.Cell{away("a", 65, 2)}, "\x01\x01a\x41\x00\x02")
	goes(t, []leaf.Cell{away("a", 127, 255), away("b", 128, 256)}, "\x02\x01a\x7f\x00\xff\x01b\x80\x01\x01\x00")
	goes(t, []leaf.Cell{away("\xff", 2048, 1023)}, "\x01\x01\xff\x80\x10\x03\xff")
	goes(t, []leaf.Cell{lies("a", text(64)), away("b", 300, 770)}, "\x02\x01a\x40"+text(64)+"\x01b\xac\x02\x03\x02")
	goes(t, []leaf.Cell{lies(text(40), "\xff")}, "\x01\x28"+text(40)+"\x01\xff")
}

// TestLoadEach: LF3, cells with each length of a key, of a value, and at each page, come back.
func TestLoadEach(t *testing.T) {
	for n := 1; n <= 40; n++ {
		for long := range 65 {
			l := []leaf.Cell{lies(text(n), text(long)), lies(text(n)+"\xff", text(64-long))}
			if n == 40 {
				l = l[:1]
			}
			goes(t, l, whole(len(l), l...))
		}
	}
	for page := 2; page <= 1023; page++ {
		l := []leaf.Cell{lies("a", "2"), away("b", 2048, page)}
		goes(t, l, whole(2, l...))
	}
	for long := 65; long <= 2048; long++ {
		l := []leaf.Cell{away("a", long, 2), lies("b", "2")}
		goes(t, l, whole(2, l...))
	}
}

// tiny are so many cells of three bytes each.
func tiny(n int) []leaf.Cell {
	var l []leaf.Cell
	for i := range n {
		l = append(l, lies(string([]byte{byte(i)}), ""))
	}
	return l
}

// filled are cells of which a load has so many bytes, from 4 on: the last one has what is left.
func filled(t *testing.T, size int) []leaf.Cell {
	t.Helper()
	var l []leaf.Cell
	rest := size - 1
	for rest > 67 {
		c := lies(string([]byte{byte(len(l))}), text(57))
		l, rest = append(l, c), rest-len(cell(c))
	}
	l = append(l, lies("\xff", text(rest-3)))
	if got := len(whole(len(l), l...)); got != size {
		t.Fatalf("the cells of %d bytes have %d", size, got)
	}
	return l
}

// TestLoadLong: LF1, LF2, up to 504 bytes, and not one more; whatever the cells are, and where how many there are takes two bytes.
func TestLoadLong(t *testing.T) {
	for _, size := range []int{4, 68, 69, 200, 400, 502, 503, 504} {
		l := filled(t, size)
		goes(t, l, whole(len(l), l...))
	}
	for _, n := range []int{1, 2, 126, 127, 128, 129, 166, 167} {
		goes(t, tiny(n), whole(n, tiny(n)...))
	}
	full := append(tiny(166), lies("\xff", "x"))
	goes(t, full, whole(167, full...))
	var far []leaf.Cell
	for i := range 100 {
		far = append(far, away(string([]byte{byte(i)}), 65+i%63, 2+i))
	}
	goes(t, far, whole(100, far...))
	far = append(far, lies("\xff", ""))
	goes(t, far[:101], whole(101, far...))
	for _, l := range [][]leaf.Cell{
		filled(t, 505), filled(t, 506), filled(t, 507), filled(t, 600), filled(t, 2000), tiny(168), tiny(169), tiny(256),
		append(tiny(166), lies("\xff", "xy")), append(tiny(165), lies("\xfe", "x"), lies("\xff", "xy")), append(far, lies("\xff\xff", "")),
	} {
		b, err := leaf.Encode(l)
		wrong(t, "Encode, of too many bytes", err, api.ErrLong)
		got, err := leaf.Decode([]byte(whole(len(l), l...)))
		wrong(t, "Decode, of too many bytes", err, api.ErrForm)
		if b != nil || got != nil {
			t.Errorf("beside an error: %x, %#v", b, got)
		}
	}
}

// TestEncodeMany: LF1, cells far above what a leaf has, or wrong at the last one alone.
func TestEncodeMany(t *testing.T) {
	var l []leaf.Cell
	for i := range 1 << 18 {
		l = append(l, lies(string([]byte{byte(i >> 16), byte(i >> 8), byte(i)}), ""))
	}
	_, err := leaf.Encode(l)
	wrong(t, "Encode, of very many", err, api.ErrLong)
	l[len(l)-1].Key = l[len(l)-2].Key
	_, err = leaf.Encode(l)
	wrong(t, "Encode, of very many, the last one a second time", err, api.ErrOrder)
	l[len(l)-1].Page = 2
	_, err = leaf.Encode(l)
	wrong(t, "Encode, of very many, the last one none", err, api.ErrArg)
}

// none are what is no cell, each for another reason, or for more than one.
func none() []leaf.Cell {
	return []leaf.Cell{
		{},
		lies("", "xy"),
		lies(text(41), ""),
		away("", 65, 2),
		away(text(41), 2048, 2),
		{Key: "m", Value: "xy", Long: 1},
		{Key: "m", Value: "xy", Long: 3},
		{Key: "m", Value: "xy", Long: -2},
		{Key: "m", Long: -1},
		{Key: "m", Long: math.MinInt},
		{Key: "m", Value: "xy", Long: 2, Page: 2},
		{Key: "m", Value: "xy", Long: 2, Page: -1},
		lies("m", text(65)),
		lies("m", text(2049)),
		away("m", 65, 0),
		away("m", 65, 1),
		away("m", 65, 1024),
		away("m", 65, 65538),
		away("m", 65, -2),
		away("m", 2049, 2),
		away("m", math.MaxInt, 2),
		{Key: "m", Value: "x", Long: 65, Page: 2},
	}
}

// TestEncodeArg: LF1, what is no cell is told wherever it stands, ahead of keys that don't ascend, and of too many bytes.
func TestEncodeArg(t *testing.T) {
	down := []leaf.Cell{lies("x", "1"), lies("b", "2"), lies("c", "3")}
	for _, c := range none() {
		for _, l := range [][]leaf.Cell{nil, tiny(3), down, tiny(167), tiny(168), append(tiny(200), down...)} {
			for _, at := range []int{0, len(l) / 2, len(l)} {
				b, err := leaf.Encode(slices.Insert(slices.Clone(l), at, c))
				wrong(t, "Encode, of what is no cell", err, api.ErrArg)
				if b != nil || t.Failed() {
					t.Fatalf("of %d cells, at %d %#v: %x", len(l), at, c, b)
				}
			}
		}
	}
}

// unsorted are rows of keys that don't ascend: two are the same, or one is below the one ahead of it, by its bytes.
func unsorted() [][]string {
	return [][]string{
		{"a", "a"}, {"b", "a"}, {"ab", "a"}, {"a\x00", "a"}, {"a", "\x00"}, {"\xff", "\x7f"}, {"\x80", "\x7f"}, {"é", "z"}, {"b", "B"},
		{"a", "b", "b"}, {"a", "a", "b"}, {"a", "c", "b"}, {"b", "a", "c"}, {"a", "b", "a"}, {"a", "b", "c", "d", "d"}, {"a", "b", "c", "e", "d"},
		{strings.Repeat("k", 40), strings.Repeat("k", 39)},
	}
}

// TestEncodeOrder: LF1, keys that don't ascend, ahead of too many bytes; whatever the values are.
func TestEncodeOrder(t *testing.T) {
	for _, list := range unsorted() {
		l := rows(list)
		for range 3 {
			b, err := leaf.Encode(l)
			wrong(t, "Encode, of keys that don't ascend", err, api.ErrOrder)
			if b != nil || t.Failed() {
				t.Fatalf("%#v: %x", l, b)
			}
			l = append(l, tiny(250)...)
			l[len(list)-1] = away(list[len(list)-1], 65, 9)
		}
	}
}

// formless fails, unless Decode answers ErrForm, and nothing beside it.
func formless(t *testing.T, load string) {
	t.Helper()
	l, err := leaf.Decode([]byte(load))
	wrong(t, "Decode", err, api.ErrForm)
	if l != nil || t.Failed() {
		t.Fatalf("Decode(%x): %#v", load, l)
	}
}

// TestDecodeCut: LF2, a load that is cut anywhere is none, nor is one with more behind it.
func TestDecodeCut(t *testing.T) {
	for _, l := range [][]leaf.Cell{
		nil, {lies("a", "xy")}, {lies("a", "")}, {away("a", 65, 2)}, {lies("ab", "x"), away("abc", 300, 1023), lies("b", text(64))}, tiny(130), filled(t, 504),
	} {
		load := whole(len(l), l...)
		for cut := range len(load) {
			formless(t, load[:cut])
		}
		for _, more := range []string{"\x00", "\x01", "\xff", "\x01z\x00", load, strings.Repeat("\x00", 505-len(load))} {
			formless(t, load+more)
		}
	}
	formless(t, "")
	formless(t, strings.Repeat("\x00", 504))
	formless(t, strings.Repeat("\xff", 504))
	formless(t, strings.Repeat("\x00", 1<<16))
	if l, err := leaf.Decode(nil); l != nil || err == nil {
		t.Errorf("Decode(nil): %#v, %v", l, err)
	}
}

// TestDecodeCount: LF2, more cells than there are, or fewer; numbers that are none of cells.
func TestDecodeCount(t *testing.T) {
	l := []leaf.Cell{lies("a", "xy"), lies("b", ""), away("c", 65, 2)}
	for _, n := range []int{0, 1, 2, 4, 5, 127, 128, 167, 168, 504, 505, 1 << 16, 1 << 31, math.MaxInt} {
		formless(t, whole(n, l...))
		if n > 0 {
			formless(t, whole(n))
		}
	}
	rest := whole(3, l...)[1:]
	for _, n := range []string{"\x83\x00", "\x83\x80\x00", "\x80", "\x83\x80\x80\x80\x80\x80\x80\x80\x80\x80", "\xff\xff\xff\xff\xff\xff\xff\xff\xff\x01"} {
		formless(t, n+rest)
	}
	formless(t, "\x80\x00")
}

// TestDecodeCell: LF2, what is no cell, or is told by a needless byte, alone, or among others.
func TestDecodeCell(t *testing.T) {
	for _, bad := range []string{
		"\x00\x00", "\x00\x02xy", "\x00\x41\x00\x02", "\x29" + text(41) + "\x00", "\xff\x01" + text(255) + "\x00",
		"\x81\x00m\x00", "\x01m\x80\x00", "\x01m\x82\x00xy", "\x01m\xc1\x00\x00\x02", "\x01m\x80\x90\x00\x00\x02",
		"\x01m\x41\x00\x00", "\x01m\x41\x00\x01", "\x01m\x41\x04\x00", "\x01m\x41\x04\x01", "\x01m\x41\xff\xff", "\x01m\x41\x02\x00\x00", "\x01m\x41\x02",
		"\x01m\x81\x10\x00\x02", "\x01m\xff\x7f\x00\x02", "\x01m\x80\x80\x01\x00\x02", "\x01m\xff\xff\xff\xff\xff\xff\xff\xff\xff\x01\x00\x02",
		"\x01m\xff\xff\xff\xff\xff\xff\xff\xff\xff\x02\x00\x02", "\x01m\x80\x80\x80\x80\x80\x80\x80\x80\x80\x80\x00\x02",
		"\xff\xff\xff\xff\xff\xff\xff\xff\xff\x01m\x00", "\x01m\x02x", "\x01m\x02xyz", "\x01m", "\x02m", "\x01m\x41" + text(65),
	} {
		before, behind := cell(lies("a", "1")), cell(lies("z", "2"))
		formless(t, "\x01"+bad)
		formless(t, "\x02"+before+bad)
		formless(t, "\x02"+bad+behind)
		formless(t, "\x03"+before+bad+behind)
	}
}

// TestDecodeOrder: LF2, keys that don't ascend.
func TestDecodeOrder(t *testing.T) {
	for _, list := range unsorted() {
		l := rows(list)
		formless(t, whole(len(l), l...))
		l[len(l)-1] = away(list[len(l)-1], 65, 9)
		formless(t, whole(len(l), l...))
		l[0] = lies(list[0], "xyz")
		formless(t, whole(len(l), l...))
	}
}

// TestLoadShares: rule 3: what is answered is new, its spare room too, and hangs on nothing that was handed in.
func TestLoadShares(t *testing.T) {
	l := []leaf.Cell{lies("a", "xy"), away("b", 65, 2)}
	one, _ := leaf.Encode(l)
	two, _ := leaf.Encode(l)
	want := slices.Clone(two)
	one = one[:cap(one)]
	for i := range one {
		one[i] = 255
	}
	l[0] = lies("c", "z")
	if !bytes.Equal(two, want) {
		t.Errorf("Encode, twice: %x, not %x", two, want)
	}
	first, _ := leaf.Decode(two)
	second, _ := leaf.Decode(two)
	clear(first[:cap(first)])
	clear(two)
	if !slices.Equal(second, []leaf.Cell{lies("a", "xy"), away("b", 65, 2)}) {
		t.Errorf("Decode, twice: %#v", second)
	}
}
