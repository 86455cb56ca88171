package keys_test

import (
	"slices"
	"strings"
	"testing"

	"warren/keys"
)

// texts are all of at most so many bytes, of the lowest and the highest bytes, and of some between.
func texts(n int) []string {
	if n == 0 {
		return []string{""}
	}
	l := texts(n - 1)
	for _, text := range texts(n - 1) {
		for _, c := range []string{"\x00", "\x01", "a", "\x80", "\xfe", "\xff"} {
			l = append(l, text+c)
		}
	}
	slices.Sort(l)
	return slices.Compact(l)
}

// spans are those from each text to each, and, with each of them as Hi, the open ones.
func spans(texts []string) []keys.Span {
	var l []keys.Span
	for _, lo := range texts {
		for _, hi := range texts {
			l = append(l, keys.Span{Lo: lo, Hi: hi}, keys.Span{Lo: lo, Hi: hi, Open: true})
		}
	}
	return l
}

// ends are few texts, for spans that are held against each other: one may be another's beginning.
func ends() []string { return []string{"", "\x00", "a", "a\x00", "ab", "b", "\xff", "\xff\xff"} }

// has is what Has should answer, by the place of a text among all of them.
func has(all []string, s keys.Span, text string) bool {
	at, lo, hi := slices.Index(all, text), slices.Index(all, s.Lo), slices.Index(all, s.Hi)
	if s.Open {
		hi = len(all)
	}
	return lo <= at && at < hi
}

// TestHas: KY1, each text of a few, in each span between them.
func TestHas(t *testing.T) {
	all := texts(2)
	for _, s := range spans(all) {
		for _, text := range all {
			if got := keys.Has(s, text); got != has(all, s, text) {
				t.Errorf("Has(%#v, %q): %v", s, text, got)
			}
		}
	}
}

// TestHasEdges: KY1, Lo is within, Hi is not; an open span begins at its Lo; a text that is no key may be within.
func TestHasEdges(t *testing.T) {
	s := keys.Span{Lo: "b", Hi: "d"}
	open := keys.Span{Lo: "b", Open: true}
	for _, c := range []struct {
		s    keys.Span
		text string
		want bool
	}{
		{s, "", false}, {s, "a\xff", false}, {s, "b", true}, {s, "b\x00", true}, {s, "c\xff\xff", true}, {s, "d", false}, {s, "d\x00", false},
		{open, "", false}, {open, "a\xff", false}, {open, "b", true}, {open, "d", true}, {open, strings.Repeat("\xff", 100), true},
		{keys.Span{Lo: "b", Hi: "a", Open: true}, "a", false}, {keys.Span{Lo: "b", Hi: "a", Open: true}, "b", true},
		{keys.Span{}, "", false}, {keys.Span{Open: true}, "", true}, {keys.Span{Hi: "\x00"}, "", true},
		{keys.Span{Lo: "b", Hi: "b"}, "b", false}, {keys.Span{Lo: "d", Hi: "b"}, "c", false},
		{keys.Span{Lo: "B", Hi: "b"}, "a", true}, {keys.Span{Lo: "z", Hi: "\xff"}, "é", true},
	} {
		if got := keys.Has(c.s, c.text); got != c.want {
			t.Errorf("Has(%#v, %q): %v", c.s, c.text, got)
		}
	}
}

// TestEmpty: KY1, a span is empty just if no text is within; an open one never is.
func TestEmpty(t *testing.T) {
	all := texts(2)
	for _, s := range spans(all) {
		some := slices.ContainsFunc(all, func(text string) bool { return has(all, s, text) })
		if got := keys.Empty(s); got == some || got && s.Open {
			t.Errorf("Empty(%#v): %v", s, got)
		}
	}
}

// TestOf: KY1, prefixes written out: the chapter's example, the highest byte at the end, nothing else than it, and nothing.
func TestOf(t *testing.T) {
	long := strings.Repeat("k", 100)
	high := strings.Repeat("\xff", 100)
	for _, c := range []struct{ prefix, hi string }{
		{"ab", "ac"}, {"a", "b"}, {"\x00", "\x01"}, {"a\x00", "a\x01"}, {"a\x7f", "a\x80"}, {"a\xfe", "a\xff"}, {"\xfe", "\xff"},
		{"a\xff", "b"}, {"a\xff\xff", "b"}, {"a\xff\xff\xfe", "a\xff\xff\xff"}, {"\xfe\xff", "\xff"}, {"\xff\xfe", "\xff\xff"},
		{"\xffa\xff", "\xffb"}, {"\x00\xff", "\x01"}, {"é", "\xc3\xaa"},
		{long, long[1:] + "l"}, {long + high, long[1:] + "l"}, {high + "a" + high, high + "b"},
		{"", ""}, {"\xff", ""}, {"\xff\xff", ""}, {high, ""},
	} {
		want := keys.Span{Lo: c.prefix, Hi: c.hi, Open: c.hi == ""}
		if got := keys.Of(c.prefix); got != want {
			t.Errorf("Of(%q): %#v, not %#v", c.prefix, got, want)
		}
	}
}

// TestOfLeast: KY1 and KY3, just what begins with a prefix is within; what is above all that, and nothing less, is not below Hi.
func TestOfLeast(t *testing.T) {
	all := texts(3)
	for _, prefix := range texts(2) {
		s := keys.Of(prefix)
		for _, text := range all {
			if keys.Has(s, text) != strings.HasPrefix(text, prefix) {
				t.Errorf("Of(%q): %#v, and %q", prefix, s, text)
			}
			// Ahead of the prefix itself, nothing is above what begins with it; behind it, all is that does not.
			above := text > prefix && !strings.HasPrefix(text, prefix)
			if s.Open && above || !s.Open && above != (text >= s.Hi) {
				t.Errorf("Of(%q): %#v, and %q is above: %v", prefix, s, text, above)
			}
		}
	}
}

// TestMeet: KY2, spans written out, either way round.
func TestMeet(t *testing.T) {
	type span = keys.Span
	for _, c := range []struct{ a, b, want span }{
		{span{Lo: "a", Hi: "m"}, span{Lo: "c", Hi: "z"}, span{Lo: "c", Hi: "m"}},
		{span{Lo: "a", Hi: "z"}, span{Lo: "c", Hi: "m"}, span{Lo: "c", Hi: "m"}},
		{span{Lo: "a", Hi: "c"}, span{Lo: "m", Hi: "z"}, span{Lo: "m", Hi: "c"}},
		{span{Lo: "a", Hi: "c"}, span{Lo: "c", Hi: "z"}, span{Lo: "c", Hi: "c"}},
		{span{Lo: "a", Open: true}, span{Lo: "c", Open: true}, span{Lo: "c", Open: true}},
		{span{Lo: "a", Open: true}, span{Lo: "c", Hi: "m"}, span{Lo: "c", Hi: "m"}},
		{span{Lo: "c", Open: true}, span{Lo: "a", Hi: "m"}, span{Lo: "c", Hi: "m"}},
		{span{Lo: "m", Open: true}, span{Lo: "a", Hi: "c"}, span{Lo: "m", Hi: "c"}},
		{span{Open: true}, span{}, span{}},
		{span{Open: true}, span{Hi: "m"}, span{Hi: "m"}},
		{span{}, span{Lo: "a", Hi: "m"}, span{Lo: "a"}},
		{span{Lo: "a", Hi: "b", Open: true}, span{Lo: "a", Hi: "m"}, span{Lo: "a", Hi: "m"}},
		{span{Lo: "a", Hi: "z", Open: true}, span{Lo: "a", Hi: "m"}, span{Lo: "a", Hi: "m"}},
		{span{Lo: "a", Hi: "b", Open: true}, span{Lo: "a", Hi: "b", Open: true}, span{Lo: "a", Open: true}},
	} {
		for _, got := range []span{keys.Meet(c.a, c.b), keys.Meet(c.b, c.a)} {
			if got != c.want {
				t.Errorf("Meet(%#v, %#v): %#v, not %#v", c.a, c.b, got, c.want)
			}
		}
	}
}

// TestMeetBoth: KY2 and KY3, of each two spans between some ends: their fields, and just those texts that are within both.
func TestMeetBoth(t *testing.T) {
	all := texts(2)
	for _, a := range spans(ends()) {
		for _, b := range spans(ends()) {
			got := keys.Meet(a, b)
			if got != met(a, b) {
				t.Errorf("Meet(%#v, %#v): %#v", a, b, got)
			}
			for _, text := range all {
				if keys.Has(got, text) != (keys.Has(a, text) && keys.Has(b, text)) {
					t.Errorf("Meet(%#v, %#v): %#v, and %q", a, b, got, text)
				}
			}
		}
	}
}

// met is what Meet should answer: out of the ends that count, in their order.
func met(a, b keys.Span) keys.Span {
	lo := []string{a.Lo, b.Lo}
	slices.Sort(lo)
	var hi []string
	for _, s := range []keys.Span{a, b} {
		if !s.Open {
			hi = append(hi, s.Hi)
		}
	}
	slices.Sort(hi)
	if len(hi) == 0 {
		return keys.Span{Lo: lo[1], Open: true}
	}
	return keys.Span{Lo: lo[1], Hi: hi[0]}
}

// TestWithin: KY2, of each two spans between some ends: just if no text is within the one alone; all ends are among the texts, so that one would be found.
func TestWithin(t *testing.T) {
	all := slices.Concat(texts(2), ends())
	for _, a := range spans(ends()) {
		for _, b := range spans(ends()) {
			alone := func(text string) bool { return keys.Has(a, text) && !keys.Has(b, text) }
			if got := keys.Within(a, b); got == slices.ContainsFunc(all, alone) {
				t.Errorf("Within(%#v, %#v): %v", a, b, got)
			}
		}
	}
}

// TestWithinEdges: KY2, spans written out: empty ones, open ones, and ends that are the same.
func TestWithinEdges(t *testing.T) {
	type span = keys.Span
	am := span{Lo: "a", Hi: "m"}
	open := span{Lo: "a", Hi: "b", Open: true}
	for _, c := range []struct {
		a, b span
		want bool
	}{
		{am, am, true}, {am, span{Lo: "a", Hi: "z"}, true}, {am, span{Lo: "A", Hi: "m"}, true},
		{am, span{Lo: "a", Hi: "l\xff"}, false}, {am, span{Lo: "a\x00", Hi: "m"}, false}, {am, span{Lo: "n", Hi: "z"}, false},
		{am, span{}, false}, {am, span{Lo: "a", Hi: "a"}, false}, {am, span{Lo: "a", Hi: "A"}, false},
		{span{}, am, true}, {span{}, span{}, true}, {span{Lo: "z", Hi: "n"}, am, true}, {span{Lo: "A", Hi: "A"}, am, true}, {span{Lo: "z", Hi: "a"}, span{Lo: "m"}, true},
		{open, open, true}, {open, am, false}, {open, span{Lo: "a", Hi: "\xff\xff"}, false}, {open, span{Open: true}, true}, {open, span{Lo: "b", Open: true}, false},
		{am, open, true}, {am, span{Open: true}, true}, {am, span{Lo: "b", Open: true}, false}, {span{Lo: "b", Hi: "c"}, open, true},
		{open, span{}, false}, {span{Open: true}, span{}, false}, {span{}, open, true},
	} {
		if got := keys.Within(c.a, c.b); got != c.want {
			t.Errorf("Within(%#v, %#v): %v", c.a, c.b, got)
		}
	}
}
