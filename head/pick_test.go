package head_test

import (
	"bytes"
	"slices"
	"testing"

	"warren/api"
	"warren/head"
)

// of is a head of a commit, of which the other numbers hang on it.
func of(seq uint64) head.Head {
	return head.Head{Seq: seq, Tenant: seq / 3, Gen: 7, Root: 2 + int(seq%1022), Entries: 1 + int(seq%4096)}
}

// belongs is the head of a page, and whether it is one whose Seq belongs there.
func belongs(b []byte, at uint64) (head.Head, bool) {
	h, err := head.Decode(b)
	return h, err == nil && h.Seq%2 == at
}

// picked fails, unless Pick answers of two pages what the rule says.
func picked(t *testing.T, what string, a, b []byte) {
	t.Helper()
	first, one := belongs(a, 0)
	second, two := belongs(b, 1)
	switch {
	case one && (!two || first.Seq > second.Seq):
		chosen(t, what, a, b, first)
	case two:
		chosen(t, what, a, b, second)
	default:
		corrupt(t, what, a, b)
	}
}

// chosen fails, unless Pick answers just that head.
func chosen(t *testing.T, what string, a, b []byte, want head.Head) {
	t.Helper()
	wasA, wasB := slices.Clone(a), slices.Clone(b)
	h, err := head.Pick(a, b)
	if h != want || err != nil {
		t.Fatalf("Pick, of %s: %v, %v, not %v", what, h, err, want)
	}
	if !bytes.Equal(a, wasA) || !bytes.Equal(b, wasB) {
		t.Fatalf("Pick, of %s, changes what was handed in", what)
	}
}

// corrupt fails, unless Pick answers that there is none, and no head beside it.
func corrupt(t *testing.T, what string, a, b []byte) {
	t.Helper()
	h, err := head.Pick(a, b)
	wrong(t, "Pick, of "+what, err, api.ErrCorrupt)
	if h != (head.Head{}) {
		t.Fatalf("Pick, of %s: %v beside an error", what, h)
	}
}

// turned is a page with a bit turned.
func turned(b []byte, place int) []byte {
	other := slices.Clone(b)
	other[place/8] ^= 1 << (place % 8)
	return other
}

// none are bytes that are no head's page, in each way in which they may be none.
func none() [][]byte {
	good := told(of(9))
	return [][]byte{
		nil, {}, make([]byte, 512), bytes.Repeat([]byte{255}, 512),
		good[:511], append(slices.Clone(good), 0), slices.Concat(good, good), turned(good, 32), turned(good, 4095),
		page(4, nil), page(4, make([]byte, 6)), page(1, nums(9, 3, 7, 11, 10)), page(5, nums(9, 3, 7, 11, 10)),
		page(4, nums(last+1, 3, 7, 11, 10)), page(4, nums(9, 3, 7, 0, 10)), page(4, nums(9, 3, 7, 11, 0)), page(4, nums(9, 3, 7, 1024, 10)), page(4, nums(9, 3, 7, 11, 4097)),
	}
}

// TestPick: HE2, heads of each two commits, at the pages where they belong and at the other ones.
func TestPick(t *testing.T) {
	seqs := []uint64{0, 1, 2, 3, 4, 5, 6, 7, 127, 128, 129, 255, 256, 1 << 32, 1<<32 + 1, 1<<61 - 1, 1 << 61, last - 3, last - 2, last - 1, last}
	for _, a := range seqs {
		for _, b := range seqs {
			picked(t, "two heads", told(of(a)), told(of(b)))
		}
	}
}

// TestPickWritten: HE2, written out.
func TestPickWritten(t *testing.T) {
	chosen(t, "2 and 3", told(of(2)), told(of(3)), of(3))
	chosen(t, "4 and 3", told(of(4)), told(of(3)), of(4))
	chosen(t, "0 and 1", told(of(0)), told(of(1)), of(1))
	chosen(t, "2 and 9, far apart", told(of(2)), told(of(9)), of(9))
	chosen(t, "the greatest, and the one ahead", told(of(last)), told(of(last-1)), of(last))
	chosen(t, "0 alone, without entries", told(head.Head{}), nil, head.Head{})
	chosen(t, "0 without entries, and noughts", told(head.Head{}), make([]byte, 512), head.Head{})
	chosen(t, "1 alone", nil, told(of(1)), of(1))
	chosen(t, "one that is greater, but doesn't belong there", told(of(2)), told(of(8)), of(2))
	chosen(t, "the other way round", told(of(9)), told(of(3)), of(3))
	corrupt(t, "two that don't belong there", told(of(3)), told(of(2)))
	corrupt(t, "1 at page 0, and nothing", told(of(1)), nil)
	corrupt(t, "nothing, and 0 at page 1", nil, told(of(0)))
	corrupt(t, "0 at page 1, and noughts", make([]byte, 512), told(head.Head{}))
}

// TestPickNone: HE2, pages of which one is no head's, or both are not: all that is wrong is ErrCorrupt.
func TestPickNone(t *testing.T) {
	for _, a := range none() {
		for _, b := range none() {
			corrupt(t, "none and none", a, b)
		}
		for _, seq := range []uint64{0, 2, 8, 10, last} {
			chosen(t, "a head and none", told(of(seq)), a, of(seq))
			corrupt(t, "none, and one that doesn't belong there", a, told(of(seq)))
		}
		for _, seq := range []uint64{1, 3, 9, 11, last - 1} {
			chosen(t, "none and a head", a, told(of(seq)), of(seq))
			corrupt(t, "one that doesn't belong there, and none", told(of(seq)), a)
		}
	}
}

// TestPickOthers: HE2, whose a head is, and of which tree, is not asked: the Seq alone tells which one is picked.
func TestPickOthers(t *testing.T) {
	small := head.Head{Seq: 7}
	great := head.Head{Seq: 6, Tenant: last, Gen: last, Root: 1023, Entries: 4096}
	chosen(t, "a lesser Seq with more of all", told(great), told(small), small)
	small.Seq, great.Seq = 8, 7
	chosen(t, "the other way round", told(small), told(great), small)
}

// laid are the pages 0 and 1 with a commit's page written over.
func laid(pages [2][]byte, seq uint64, b []byte) [2][]byte {
	pages[seq%2] = b
	return pages
}

// torn is a page of which those sectors were written that a number's bits tell, and the others not.
func torn(was, now []byte, kept int) []byte {
	b := slices.Clone(was)
	for part := range 8 {
		if kept>>part&1 == 1 {
			copy(b[64*part:64*part+64], now[64*part:])
		}
	}
	return b
}

// TestTurned: HE3, whichever bit of one of two pages is turned, the other one is picked.
func TestTurned(t *testing.T) {
	for _, seq := range []uint64{1, 2, 7, 300, last} {
		pages := laid(laid([2][]byte{}, seq-1, told(of(seq-1))), seq, told(of(seq)))
		for place := range 8 * 512 {
			ahead := laid(pages, seq-1, turned(pages[(seq-1)%2], place))
			chosen(t, "the one ahead with a bit turned", ahead[0], ahead[1], of(seq))
			newest := laid(pages, seq, turned(pages[seq%2], place))
			chosen(t, "the newest with a bit turned", newest[0], newest[1], of(seq-1))
		}
	}
}

// TestTorn: HE3, as a commit's page goes from what lay there to noughts to its head, some sectors of it and others not, the newest is picked, or the one ahead.
func TestTorn(t *testing.T) {
	blank := make([]byte, 512)
	pages := [2][]byte{told(of(0)), blank}
	for seq := uint64(1); seq < 40; seq++ {
		now := told(of(seq))
		steps := [][2][]byte{{pages[seq%2], blank}, {blank, now}, {pages[seq%2], now}}
		for _, step := range steps {
			for kept := range 256 {
				b := torn(step[0], step[1], kept)
				want := of(seq - 1)
				if bytes.Equal(b, now) {
					want = of(seq)
				}
				crashed := laid(pages, seq, b)
				chosen(t, "a page that is torn", crashed[0], crashed[1], want)
			}
		}
		pages = laid(pages, seq, now)
	}
}

// TestWhatever: HE3, whatever is thrown over one page, the head of the other one is picked, unless a greater one was laid whole.
func TestWhatever(t *testing.T) {
	d := dice(3)
	for range 3000 {
		seq := uint64(1 + d.throw(500))
		b := told(of(uint64(d.throw(502))))
		if d.throw(4) > 0 {
			for range 1 + d.throw(30) {
				b[d.throw(512)] = byte(d.throw(256))
			}
		}
		pages := laid(laid([2][]byte{}, seq, told(of(seq))), seq+1, b)
		want := of(seq)
		if h, ok := belongs(b, (seq+1)%2); ok && h.Seq > seq {
			want = h
		}
		chosen(t, "something thrown", pages[0], pages[1], want)
		picked(t, "something thrown", pages[0], pages[1])
	}
}

// TestOnePage: HE2, one list of bytes as both pages, for nothing of it is changed, or told twice.
func TestOnePage(t *testing.T) {
	for seq := range uint64(20) {
		b := told(of(seq))
		chosen(t, "one page as both", b, b, of(seq))
	}
}
