package cursor_test

import (
	"slices"
	"strconv"
	"strings"
	"testing"

	"warren/api"
	"warren/cursor"
	"warren/keys"
	"warren/tree"
)

// all is the span that has every text.
var all = keys.Span{Open: true}

// pairs are entries, a key and a value each.
func pairs(words ...string) []api.Entry {
	var l []api.Entry
	for i := 0; i < len(words); i += 2 {
		l = append(l, api.Entry{Key: words[i], Value: words[i+1]})
	}
	return l
}

// many are so many entries with other keys.
func many(n int) []api.Entry {
	var l []api.Entry
	for i := range n {
		l = append(l, api.Entry{Key: "k" + strconv.Itoa(10000+i), Value: "v" + strconv.Itoa(i)})
	}
	return l
}

// of is a tree of entries, of which none is wrong.
func of(t *testing.T, l []api.Entry) tree.Tree {
	t.Helper()
	u, err := tree.Of(l)
	if err != nil {
		t.Fatalf("Of, %d entries: %v", len(l), err)
	}
	return u
}

// within are those of a list that are within a span, as the words say.
func within(l []api.Entry, s keys.Span) []api.Entry {
	var in []api.Entry
	for _, e := range l {
		if e.Key >= s.Lo && (s.Open || e.Key < s.Hi) {
			in = append(in, e)
		}
	}
	return in
}

// texts are ends of spans, and what is sought: short ones, one that another begins with, and such as can't be keys.
func texts() []string {
	return []string{"", "\x00", "a", "a\x00", "ab", "b", "c", "c\x00", "d", "\xff", "\xff\xff", strings.Repeat("b", 41), strings.Repeat("\xff", 300)}
}

// spans are those from each text to each, closed and open.
func spans(texts []string) []keys.Span {
	var l []keys.Span
	for _, lo := range texts {
		for _, hi := range texts {
			l = append(l, keys.Span{Lo: lo, Hi: hi}, keys.Span{Lo: lo, Hi: hi, Open: true})
		}
	}
	return l
}

// place is where a cursor stands, as the words say: between those ahead of it and those behind it.
type place struct{ ahead, behind []api.Entry }

// sought is the place among entries ahead of the first that is not below a key.
func sought(l []api.Entry, key string) place {
	var p place
	for _, e := range l {
		if e.Key < key {
			p.ahead = append(p.ahead, e)
		} else {
			p.behind = append(p.behind, e)
		}
	}
	return p
}

// among are the entries about a place.
func (p place) among() []api.Entry { return append(slices.Clone(p.ahead), p.behind...) }

// next fails, unless Next tells what is behind a place; it answers the place behind that.
func next(t *testing.T, c *cursor.Cursor, p place) place {
	t.Helper()
	e, ok := c.Next()
	if len(p.behind) == 0 {
		if ok || e != (api.Entry{}) {
			t.Fatalf("Next, behind the last one: %.80q, %v", e, ok)
		}
		return p
	}
	if !ok || e != p.behind[0] {
		t.Fatalf("Next: %.80q, %v, not %.80q", e, ok, p.behind[0])
	}
	return place{append(slices.Clone(p.ahead), e), p.behind[1:]}
}

// prev fails, unless Prev tells what is ahead of a place; it answers the place ahead of that.
func prev(t *testing.T, c *cursor.Cursor, p place) place {
	t.Helper()
	e, ok := c.Prev()
	n := len(p.ahead) - 1
	if n < 0 {
		if ok || e != (api.Entry{}) {
			t.Fatalf("Prev, ahead of the first: %.80q, %v", e, ok)
		}
		return p
	}
	if !ok || e != p.ahead[n] {
		t.Fatalf("Prev: %.80q, %v, not %.80q", e, ok, p.ahead[n])
	}
	return place{p.ahead[:n], append([]api.Entry{e}, p.behind...)}
}

// stands fails, unless a cursor stands at a place, as copies of it that go either way tell.
func stands(t *testing.T, c *cursor.Cursor, p place) {
	t.Helper()
	forth, back := c.Copy(), c.Copy()
	next(t, forth, p)
	prev(t, back, p)
}

// goes fails, unless a cursor goes from where it stands to the end, to the front, and back to the end, and tells each entry.
func goes(t *testing.T, c *cursor.Cursor, p place) {
	t.Helper()
	n := len(p.ahead) + len(p.behind)
	for range len(p.behind) + 2 {
		p = next(t, c, p)
	}
	for range n + 2 {
		p = prev(t, c, p)
	}
	for range n + 2 {
		p = next(t, c, p)
	}
}

// TestWritten: CS1, CS2, written out.
func TestWritten(t *testing.T) {
	c := cursor.New(of(t, pairs("b", "2", "a", "1")), all)
	tell := func(what string, call func() (api.Entry, bool), want string) {
		t.Helper()
		e, ok := call()
		if e.Key != want || ok != (want != "") || want == "a" && e.Value != "1" || want == "b" && e.Value != "2" {
			t.Errorf("%s: %q, %v, not %q", what, e, ok, want)
		}
	}
	tell("ahead of the first, Prev", c.Prev, "")
	tell("Next", c.Next, "a")
	tell("Next", c.Next, "b")
	tell("Prev", c.Prev, "b")
	tell("Next", c.Next, "b")
	tell("behind the last one, Next", c.Next, "")
	tell("again, Next", c.Next, "")
	tell("from there, Prev", c.Prev, "b")
	tell("Prev", c.Prev, "a")
	tell("ahead of the first, Prev", c.Prev, "")
	tell("again, Prev", c.Prev, "")
	tell("from there, Next", c.Next, "a")
	c.End()
	tell("End, Next", c.Next, "")
	tell("End, Prev", c.Prev, "b")
	c.Seek("a\x00")
	tell("Seek between both, Next", c.Next, "b")
	c.Seek("a\x00")
	tell("Seek between both, Prev", c.Prev, "a")
	c.Seek("b")
	tell("Seek the last one, Next", c.Next, "b")
	c.Seek("c")
	tell("Seek behind the last one, Next", c.Next, "")
	tell("Seek behind the last one, Prev", c.Prev, "b")
	c.Seek("")
	tell("Seek nothing, Prev", c.Prev, "")
	tell("Seek nothing, Next", c.Next, "a")
	twin := c.Copy()
	tell("Next", c.Next, "b")
	tell("of a copy, Prev", twin.Prev, "a")
	tell("behind that, Next", c.Next, "")
}

// TestSpans: CS1, CS2, each span between few texts, be it open, closed or empty, of few entries, each of which is there or not: from each place to the next, to the ends, and to each text that is sought.
func TestSpans(t *testing.T) {
	some := pairs("\x00", "", "a", "1", "a\x00", "2", "ab", "3", "b", strings.Repeat("4", 2048), "c", "5", "\xff", strings.Repeat("6", 65))
	for set := range 1 << len(some) {
		var l []api.Entry
		for i, e := range some {
			if set>>i&1 == 1 {
				l = append(l, e)
			}
		}
		u := of(t, l)
		for _, s := range spans(texts()) {
			in := within(l, s)
			c := cursor.New(u, s)
			stands(t, c, place{behind: in})
			for _, key := range texts() {
				c.Seek(key)
				stands(t, c, sought(in, key))
			}
			goes(t, c, sought(in, texts()[len(texts())-1]))
			c.End()
			stands(t, c, place{ahead: in})
			goes(t, cursor.New(u, s), place{behind: in})
		}
	}
}

// TestNone: CS1, CS2, nothing is within the span: each call tells so, in any order.
func TestNone(t *testing.T) {
	u := of(t, pairs("a", "1", "c", "3"))
	for _, c := range []*cursor.Cursor{cursor.New(tree.Tree{}, all), cursor.New(tree.Tree{}, keys.Of("a")), cursor.New(u, keys.Span{}), cursor.New(u, keys.Of("b")), cursor.New(u, keys.Span{Lo: "c", Hi: "a"}), new(cursor.Cursor)} {
		goes(t, c, place{})
		for _, key := range texts() {
			c.Seek(key)
			goes(t, c, place{})
		}
		c.End()
		goes(t, c, place{})
		goes(t, c.Copy(), place{})
	}
}

// TestNil: a nil Cursor: nothing, false, and nil; Seek and End do nothing.
func TestNil(t *testing.T) {
	var c *cursor.Cursor
	c.Seek("a")
	c.Seek("")
	c.End()
	goes(t, c, place{})
	if twin := c.Copy(); twin != nil {
		t.Errorf("Copy of nil: %v", twin)
	}
}

// TestCopy: CS1, a copy stands where its cursor does, wherever that is, and neither goes with the other.
func TestCopy(t *testing.T) {
	l := many(20)
	u := of(t, l)
	for at := range len(l) + 1 {
		p := place{l[:at], l[at:]}
		c := cursor.New(u, all)
		for range at {
			c.Next()
		}
		twin := c.Copy()
		goes(t, twin, p)
		stands(t, c, p)
		twin.End()
		twin = c.Copy()
		third := twin.Copy()
		goes(t, c, p)
		c.Seek("")
		stands(t, twin, p)
		twin.Seek("")
		stands(t, third, p)
	}
}

// TestTree: CS1, CS2, a cursor goes through its tree, whatever trees come of that, and that stays what it was; two cursors of a tree go on their own.
func TestTree(t *testing.T) {
	l := many(300)
	u := of(t, l)
	s := keys.Span{Lo: "k10050", Hi: "k10250"}
	in := within(l, s)
	c, d := cursor.New(u, s), cursor.New(u, s)
	p, q := place{behind: in}, place{behind: in}
	less := u
	for i, e := range l {
		p = next(t, c, p)
		if i%3 == 0 {
			q = next(t, d, q)
		}
		less, _ = tree.Delete(less, e.Key)
		other, err := tree.Put(u, e.Key+"x", "new")
		if err != nil {
			t.Fatalf("Put: %v", err)
		}
		stands(t, cursor.New(other, keys.Span{Lo: e.Key, Open: true}), place{behind: append([]api.Entry{e, {Key: e.Key + "x", Value: "new"}}, l[i+1:]...)})
	}
	goes(t, c, p)
	goes(t, d, q)
	goes(t, cursor.New(less, s), place{})
	if got := tree.All(u); !slices.Equal(got, l) {
		t.Errorf("All, behind it: %.200q", got)
	}
}

// TestFull: CS1, CS2, as many entries as there may be: from each end to the other, and from each key on.
func TestFull(t *testing.T) {
	l := many(4096)
	u := of(t, l)
	for _, s := range []keys.Span{all, {Lo: "k10000", Hi: "k14096"}, {Lo: "k10001", Hi: "k14095"}, keys.Of("k12"), keys.Of("k13999"), {Lo: "k14095", Open: true}} {
		in := within(l, s)
		c := cursor.New(u, s)
		for i := range in {
			if e, ok := c.Next(); !ok || e != in[i] {
				t.Fatalf("Next, %d: %q, %v, not %q", i, e, ok, in[i])
			}
		}
		stands(t, c, place{ahead: in})
		for i := len(in) - 1; i >= 0; i-- {
			if e, ok := c.Prev(); !ok || e != in[i] {
				t.Fatalf("Prev, %d: %q, %v, not %q", i, e, ok, in[i])
			}
		}
		stands(t, c, place{behind: in})
		for i := range in {
			c.Seek(in[i].Key)
			stands(t, c, place{in[max(i-1, 0):i], in[i:]})
			c.Seek(in[i].Key + "\x00")
			stands(t, c, place{in[i : i+1], in[i+1:]})
		}
		c.End()
		stands(t, c, place{ahead: in})
	}
}

// dice throws numbers that are the same each time.
type dice uint32

// under is one below n.
func (d *dice) under(n int) int {
	*d = *d*1664525 + 1013904223
	return int(*d>>8) % n
}

// text is one of up to so many bytes, out of few.
func (d *dice) text(most int) string {
	b := make([]byte, d.under(most+1))
	for i := range b {
		b[i] = "\x00a\x80\xff"[d.under(4)]
	}
	return string(b)
}

// end is a key of a list, or another text.
func (d *dice) end(l []api.Entry) string {
	if len(l) > 0 && d.under(3) > 0 {
		return l[d.under(len(l))].Key
	}
	return d.text(42)
}

// step does anything to a cursor, and to its place likewise.
func (d *dice) step(t *testing.T, c *cursor.Cursor, p place) place {
	t.Helper()
	switch d.under(20) {
	case 0:
		c.End()
		return place{ahead: p.among()}
	case 1, 2:
		key := d.end(p.among())
		c.Seek(key)
		return sought(p.among(), key)
	case 3, 4, 5, 6, 7, 8, 9, 10:
		return prev(t, c, p)
	default:
		return next(t, c, p)
	}
}

// TestRandom: CS1, CS2, trees with entries of any size, through which cursors and copies of them go any way.
func TestRandom(t *testing.T) {
	d := dice(14)
	for range 300 {
		var u tree.Tree
		for range d.under(150) {
			u, _ = tree.Put(u, "a"+d.text(4), strings.Repeat("v", d.under(100)))
			u, _ = tree.Put(u, "\x80"+d.text(39), "w")
		}
		l := tree.All(u)
		s := keys.Span{Lo: d.end(l), Hi: d.end(l), Open: d.under(3) == 0}
		if d.under(2) == 0 {
			s.Lo, s.Hi = min(s.Lo, s.Hi), max(s.Lo, s.Hi)
		}
		c, p := cursor.New(u, s), place{behind: within(l, s)}
		for range 20 {
			twin, q := c.Copy(), p
			for range 15 {
				p = d.step(t, c, p)
				q = d.step(t, twin, q)
			}
			if d.under(2) == 0 {
				c, p = twin, q
			}
		}
		goes(t, c, p)
	}
}
