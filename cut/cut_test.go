package cut_test

import (
	"math"
	"slices"
	"strconv"
	"strings"
	"testing"

	"warren/api"
	"warren/cut"
	"warren/keys"
	"warren/tree"
)

// pairs are entries, a key and a value each.
func pairs(words ...string) []api.Entry {
	var l []api.Entry
	for i := 0; i < len(words); i += 2 {
		l = append(l, api.Entry{Key: words[i], Value: words[i+1]})
	}
	return l
}

// many are so many entries with other keys.
func many(n int) []api.Entry {
	var l []api.Entry
	for i := range n {
		l = append(l, api.Entry{Key: "k" + strconv.Itoa(10000+i), Value: "v" + strconv.Itoa(i)})
	}
	return l
}

// of is a tree of entries, of which none is wrong.
func of(t *testing.T, l []api.Entry) tree.Tree {
	t.Helper()
	u, err := tree.Of(l)
	if err != nil {
		t.Fatalf("Of, %d entries: %v", len(l), err)
	}
	return u
}

// within are those of a list that are within a span, as the words say; the others are beside them.
func within(l []api.Entry, s keys.Span) (in, out []api.Entry) {
	for _, e := range l {
		if e.Key >= s.Lo && (s.Open || e.Key < s.Hi) {
			in = append(in, e)
		} else {
			out = append(out, e)
		}
	}
	return in, out
}

// texts are ends of spans: short ones, one that another begins with, and such as can't be keys.
func texts() []string {
	return []string{"", "\x00", "a", "a\x00", "ab", "b", "c", "c\x00", "d", "\xff", "\xff\xff", strings.Repeat("b", 41), strings.Repeat("\xff", 300)}
}

// spans are those from each text to each, closed and open.
func spans(texts []string) []keys.Span {
	var l []keys.Span
	for _, lo := range texts {
		for _, hi := range texts {
			l = append(l, keys.Span{Lo: lo, Hi: hi}, keys.Span{Lo: lo, Hi: hi, Open: true})
		}
	}
	return l
}

// rows fails, unless Rows answers the first of those entries, in their order, and whether there are more.
func rows(t *testing.T, u tree.Tree, s keys.Span, most int, back bool, want []api.Entry) {
	t.Helper()
	if back {
		want = slices.Clone(want)
		slices.Reverse(want)
	}
	n := len(want)
	if most < n {
		n = max(most, 0)
	}
	got, more := cut.Rows(u, s, most, back)
	if !slices.Equal(got, want[:n]) || more != (n < len(want)) {
		t.Fatalf("Rows(%.80q, %.80q, %v; %d, %v): %.200q, %v, not %.200q, %v", s.Lo, s.Hi, s.Open, most, back, got, more, want[:n], n < len(want))
	}
}

// looked fails, unless each call that looks at what is within a span answers what those entries say.
func looked(t *testing.T, u tree.Tree, s keys.Span, want []api.Entry) {
	t.Helper()
	n := len(want)
	for _, back := range []bool{false, true} {
		for _, most := range []int{math.MinInt, -1, 0, 1, 2, n - 1, n, n + 1, math.MaxInt - 1, math.MaxInt} {
			rows(t, u, s, most, back, want)
		}
	}
	if got := cut.Count(u, s); got != n {
		t.Fatalf("Count(%.80q, %.80q, %v): %d, not %d", s.Lo, s.Hi, s.Open, got, n)
	}
	first, ok := cut.First(u, s)
	last, also := cut.Last(u, s)
	if n == 0 && (ok || also || first != api.Entry{} || last != api.Entry{}) {
		t.Fatalf("First, Last(%.80q, %.80q, %v): %q, %v, %q, %v, not nothing", s.Lo, s.Hi, s.Open, first, ok, last, also)
	}
	if n > 0 && (!ok || !also || first != want[0] || last != want[n-1]) {
		t.Fatalf("First, Last(%.80q, %.80q, %v): %q, %v, %q, %v, not %q and %q", s.Lo, s.Hi, s.Open, first, ok, last, also, want[0], want[n-1])
	}
}

// has fails, unless a tree has just those entries, and is not too high for them.
func has(t *testing.T, u tree.Tree, want []api.Entry) {
	t.Helper()
	if got := tree.All(u); !slices.Equal(got, want) || tree.Len(u) != len(want) {
		t.Fatalf("All: %.200q, Len %d, not %.200q", got, tree.Len(u), want)
	}
	for _, e := range want {
		if value, ok := tree.Get(u, e.Key); value != e.Value || !ok {
			t.Fatalf("Get(%q): %.80q, %v, not %.80q", e.Key, value, ok, e.Value)
		}
	}
	high := tree.Height(u)
	if len(want) == 0 && high != 0 || len(want) > 0 && high == 0 || len(want) < 200 && high > 4 {
		t.Fatalf("of %d entries, Height: %d", len(want), high)
	}
}

// removed fails, unless what is within a span goes, and all else stays, while the tree ahead stays what it was.
func removed(t *testing.T, u tree.Tree, s keys.Span, l []api.Entry) tree.Tree {
	t.Helper()
	in, out := within(l, s)
	less, n := cut.Remove(u, s)
	if n != len(in) {
		t.Fatalf("Remove(%.80q, %.80q, %v): %d, not %d", s.Lo, s.Hi, s.Open, n, len(in))
	}
	has(t, less, out)
	has(t, u, l)
	looked(t, less, s, nil)
	for _, e := range in {
		if value, ok := tree.Get(less, e.Key); value != "" || ok {
			t.Fatalf("Get(%q), which was removed: %.80q, %v", e.Key, value, ok)
		}
	}
	return less
}

// TestWritten: CU1, CU2, written out.
func TestWritten(t *testing.T) {
	u := of(t, pairs("b", "2", "a", "1", "c", "3"))
	from, ahead := keys.Span{Lo: "b", Open: true}, keys.Span{Hi: "b"}
	got, more := cut.Rows(u, from, 2, true)
	if !slices.Equal(got, pairs("c", "3", "b", "2")) || more {
		t.Errorf("Rows, from b on, back: %q, %v", got, more)
	}
	got, more = cut.Rows(u, from, 1, true)
	if !slices.Equal(got, pairs("c", "3")) || !more {
		t.Errorf("Rows, from b on, one, back: %q, %v", got, more)
	}
	got, more = cut.Rows(u, from, 1, false)
	if !slices.Equal(got, pairs("b", "2")) || !more {
		t.Errorf("Rows, from b on, one: %q, %v", got, more)
	}
	if n, m := cut.Count(u, from), cut.Count(u, ahead); n != 2 || m != 1 {
		t.Errorf("Count: %d, %d", n, m)
	}
	first, ok := cut.First(u, from)
	last, also := cut.Last(u, from)
	if first != (api.Entry{Key: "b", Value: "2"}) || last != (api.Entry{Key: "c", Value: "3"}) || !ok || !also {
		t.Errorf("First, Last: %q, %v, %q, %v", first, ok, last, also)
	}
	less, n := cut.Remove(u, from)
	if n != 2 {
		t.Errorf("Remove: %d", n)
	}
	has(t, less, pairs("a", "1"))
	less, n = cut.Remove(u, ahead)
	if n != 1 {
		t.Errorf("Remove: %d", n)
	}
	has(t, less, pairs("b", "2", "c", "3"))
	has(t, u, pairs("a", "1", "b", "2", "c", "3"))
}

// TestSpans: CU1 to CU3, each span between few texts, be it open, closed or empty, of few entries, each of which is there or not.
func TestSpans(t *testing.T) {
	all := pairs("\x00", "", "a", "1", "a\x00", "2", "ab", "3", "b", strings.Repeat("4", 2048), "c", "5", "\xff", strings.Repeat("6", 65))
	for set := range 1 << len(all) {
		var l []api.Entry
		for i, e := range all {
			if set>>i&1 == 1 {
				l = append(l, e)
			}
		}
		u := of(t, l)
		for _, s := range spans(texts()) {
			in, _ := within(l, s)
			looked(t, u, s, in)
			removed(t, u, s, l)
		}
	}
}

// TestNone: CU1, CU2, nothing is there, whatever the span.
func TestNone(t *testing.T) {
	for _, s := range append(spans(texts()), keys.Of(""), keys.Of("a"), keys.Span{}) {
		looked(t, tree.Tree{}, s, nil)
		less, n := cut.Remove(tree.Tree{}, s)
		if n != 0 {
			t.Errorf("Remove(%q, %q, %v): %d", s.Lo, s.Hi, s.Open, n)
		}
		has(t, less, nil)
	}
}

// TestMany: CU1, each number that is asked for, of many entries in many leaves, from ends that are there and from ends that are not.
func TestMany(t *testing.T) {
	l := many(500)
	u := of(t, l)
	for _, s := range []keys.Span{{Open: true}, {Lo: "k10100", Hi: "k10400"}, {Lo: "k10100\x00", Hi: "k10400\x00"}, {Lo: "k101", Open: true}, keys.Of("k101"), keys.Of("k1012")} {
		in, _ := within(l, s)
		for most := -2; most <= len(in)+2; most++ {
			rows(t, u, s, most, false, in)
			rows(t, u, s, most, true, in)
		}
	}
}

// TestFull: CU1 to CU3, as many entries as there may be, of which most, all or none go, and put anew they are there again.
func TestFull(t *testing.T) {
	l := many(4096)
	u := of(t, l)
	for _, s := range []keys.Span{{Open: true}, {Hi: "l"}, {Lo: "k10000", Hi: "k14096"}, {Lo: "k10001", Hi: "k14095"}, {Lo: "k10000", Hi: "k10001"}, {Lo: "k14095", Open: true}, keys.Of("k12"), keys.Of("k13999"), keys.Of("l"), {Lo: "k13", Hi: "k12"}} {
		in, _ := within(l, s)
		looked(t, u, s, in)
		less := removed(t, u, s, l)
		for _, e := range in {
			var err error
			if less, err = tree.Put(less, e.Key, e.Value); err != nil {
				t.Fatalf("Put, behind Remove: %v", err)
			}
		}
		has(t, less, l)
	}
}

// TestNew: rule 3: lists that were answered are nobody else's, their spare room too.
func TestNew(t *testing.T) {
	all := keys.Span{Open: true}
	for _, n := range []int{1, 3, 300} {
		l := many(n)
		u := of(t, l)
		for _, back := range []bool{false, true} {
			for most := range min(n, 40) + 2 {
				one, _ := cut.Rows(u, all, most, back)
				two, _ := cut.Rows(u, all, most, back)
				was := slices.Clone(two)
				clear(one[:cap(one)])
				_ = append(one, api.Entry{Key: "other"})
				if !slices.Equal(two, was) {
					t.Fatalf("Rows, twice, %d of %d entries: they share", most, n)
				}
			}
		}
		has(t, u, l)
	}
}

// dice throws numbers that are the same each time.
type dice uint32

// under is one below n.
func (d *dice) under(n int) int {
	*d = *d*1664525 + 1013904223
	return int(*d>>8) % n
}

// text is one of up to so many bytes, out of few.
func (d *dice) text(most int) string {
	b := make([]byte, d.under(most+1))
	for i := range b {
		b[i] = "\x00a\x80\xff"[d.under(4)]
	}
	return string(b)
}

// TestRandom: CU1 to CU3, trees with entries of any size, out of which span after span goes, and into which other entries come.
func TestRandom(t *testing.T) {
	d := dice(13)
	for range 40 {
		m := map[string]string{}
		var u tree.Tree
		for range 12 {
			for range d.under(200) {
				e := api.Entry{Key: "\x80" + d.text(39), Value: strings.Repeat("v", d.under(100))}
				if d.under(2) == 0 {
					e.Key = "a" + d.text(4)
				}
				m[e.Key] = e.Value
				u, _ = tree.Put(u, e.Key, e.Value)
			}
			l := listed(m)
			has(t, u, l)
			for range 10 {
				s := d.span(l)
				in, _ := within(l, s)
				looked(t, u, s, in)
			}
			s := d.span(l)
			u = removed(t, u, s, l)
			in, _ := within(l, s)
			for _, e := range in {
				delete(m, e.Key)
			}
		}
	}
}

// span is one whose ends are keys of a list, or other texts.
func (d *dice) span(l []api.Entry) keys.Span {
	ends := []string{d.text(3), d.text(42)}
	for i := range ends {
		if len(l) > 0 && d.under(3) > 0 {
			ends[i] = l[d.under(len(l))].Key
		}
	}
	return keys.Span{Lo: min(ends[0], ends[1]), Hi: ends[1], Open: d.under(4) == 0}
}

// listed are the entries of a map, in the order of their keys.
func listed(m map[string]string) []api.Entry {
	var l []api.Entry
	for key, value := range m {
		l = append(l, api.Entry{Key: key, Value: value})
	}
	slices.SortFunc(l, func(a, b api.Entry) int { return strings.Compare(a.Key, b.Key) })
	return l
}
