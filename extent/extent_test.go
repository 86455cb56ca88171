package extent_test

import (
	"errors"
	"math"
	"slices"
	"testing"

	"warren/api"
	"warren/extent"
)

// of are stretches, two numbers each: from which page on, and how many.
func of(numbers ...int) []extent.Stretch {
	var l []extent.Stretch
	for i := 0; i < len(numbers); i += 2 {
		l = append(l, extent.Stretch{From: numbers[i], Many: numbers[i+1]})
	}
	return l
}

// each hands on all lists of up to so many stretches that begin and are as long as those numbers say.
func each(froms, manys []int, most int, to func([]extent.Stretch)) {
	var grow func(l []extent.Stretch)
	grow = func(l []extent.Stretch) {
		to(l)
		if len(l) == most {
			return
		}
		for _, from := range froms {
			for _, many := range manys {
				grow(append(slices.Clone(l), extent.Stretch{From: from, Many: many}))
			}
		}
	}
	grow(nil)
}

// may tells, page by page, whether stretches may be, as the words say.
func may(l []extent.Stretch, pages int) bool {
	if pages < 1 || pages > 1024 {
		return false
	}
	used := make([]bool, pages)
	for _, s := range l {
		if s.From < 0 || s.From >= pages || s.Many < 1 || s.Many > pages {
			return false
		}
		for page := s.From; page < s.From+s.Many; page++ {
			if page >= pages || used[page] {
				return false
			}
			used[page] = true
		}
	}
	return true
}

// listed are the pages of stretches that may be, by their numbers.
func listed(l []extent.Stretch) []int {
	var pages []int
	for _, s := range l {
		for i := range s.Many {
			pages = append(pages, s.From+i)
		}
	}
	return pages
}

// wrong fails, unless an error's number is that one.
func wrong(t *testing.T, what string, l []extent.Stretch, err error, want api.Errno) {
	t.Helper()
	var no api.Errno
	if !errors.As(err, &no) || no != want {
		t.Fatalf("%s, of %v: %v, not %v", what, l, err, want)
	}
}

// checked fails, unless Check says of stretches what the words say.
func checked(t *testing.T, l []extent.Stretch, pages int) {
	t.Helper()
	was := slices.Clone(l)
	err := extent.Check(l, pages)
	if !slices.Equal(l, was) {
		t.Fatalf("Check changes %v to %v", was, l)
	}
	if !may(l, pages) {
		wrong(t, "Check", l, err, api.ErrArg)
	} else if err != nil {
		t.Fatalf("Check, of %d pages, of %v: %v", pages, l, err)
	}
}

// numbered fails, unless Many, Page and Number answer of stretches what their pages, one behind the other, say.
func numbered(t *testing.T, l []extent.Stretch) {
	t.Helper()
	was, ok := slices.Clone(l), may(l, 1024)
	var pages []int
	if ok {
		pages = listed(l)
	}
	if n := extent.Many(l); n != len(pages) {
		t.Fatalf("Many, of %v: %d, not %d", l, n, len(pages))
	}
	for _, n := range asked(len(pages)) {
		paged(t, l, ok, n, pages)
	}
	for _, page := range []int{math.MinInt, -1024, -2, -1, 0, 1, 2, 3, 4, 5, 6, 7, 1018, 1019, 1020, 1021, 1022, 1023, 1024, 1025, math.MaxInt - 1, math.MaxInt} {
		found(t, l, ok, page, pages)
	}
	for _, page := range pages {
		found(t, l, ok, page, pages)
	}
	if !slices.Equal(l, was) {
		t.Fatalf("%v was changed to %v", was, l)
	}
}

// asked are the numbers of so many pages, and some that none has.
func asked(many int) []int {
	l := []int{math.MinInt, math.MinInt + 1, -1025, -2, -1, many, many + 1, 1023, 1024, 1025, math.MaxInt - 1, math.MaxInt}
	for n := range many {
		l = append(l, n)
	}
	return l
}

// paged fails, unless Page answers of a number what the pages say.
func paged(t *testing.T, l []extent.Stretch, ok bool, n int, pages []int) {
	t.Helper()
	page, err := extent.Page(l, n)
	if ok && n >= 0 && n < len(pages) {
		if page != pages[n] || err != nil {
			t.Fatalf("Page(%v, %d): %d, %v, not %d", l, n, page, err, pages[n])
		}
		return
	}
	refused(t, "Page", l, ok, n, page, err)
}

// found fails, unless Number answers of a page what the pages say.
func found(t *testing.T, l []extent.Stretch, ok bool, page int, pages []int) {
	t.Helper()
	n, err := extent.Number(l, page)
	if at := slices.Index(pages, page); at >= 0 {
		if n != at || err != nil {
			t.Fatalf("Number(%v, %d): %d, %v, not %d", l, page, n, err, at)
		}
		return
	}
	refused(t, "Number", l, ok, page, n, err)
}

// refused fails, unless what was asked of stretches has an error, and 0 beside it.
func refused(t *testing.T, what string, l []extent.Stretch, ok bool, asked, got int, err error) {
	t.Helper()
	if got != 0 {
		t.Fatalf("%s(%v, %d): %d beside an error", what, l, asked, got)
	}
	want := api.ErrRange
	if !ok {
		want = api.ErrArg
	}
	wrong(t, what, l, err, want)
}

// TestCheckWritten: EX1, written out: stretches that may be, and such as may not.
func TestCheckWritten(t *testing.T) {
	for _, c := range []struct {
		l     []extent.Stretch
		pages int
		ok    bool
	}{
		{nil, 1, true}, {nil, 1024, true}, {[]extent.Stretch{}, 8, true}, {nil, 0, false}, {nil, -1, false}, {nil, 1025, false},
		{of(0, 1), 1, true}, {of(0, 2), 1, false}, {of(1, 1), 1, false}, {of(0, 1024), 1024, true}, {of(0, 1025), 1024, false}, {of(0, 1024), 1025, false},
		{of(0, 0), 8, false}, {of(3, 0), 8, false}, {of(8, 0), 8, false}, {of(0, -1), 8, false}, {of(-1, 1), 8, false}, {of(-1, 2), 8, false}, {of(3, -1), 8, false},
		{of(7, 1), 8, true}, {of(7, 2), 8, false}, {of(8, 1), 8, false}, {of(0, 8), 8, true}, {of(1, 8), 8, false}, {of(1023, 1), 1024, true}, {of(1023, 2), 1024, false},
		{of(0, 3, 5, 3), 8, true}, {of(5, 3, 0, 3), 8, true}, {of(0, 3, 3, 5), 8, true}, {of(3, 5, 0, 3), 8, true},
		{of(0, 3, 2, 1), 8, false}, {of(2, 1, 0, 3), 8, false}, {of(0, 8, 3, 1), 8, false}, {of(3, 1, 0, 8), 8, false}, {of(4, 2, 4, 2), 8, false}, {of(4, 1, 4, 2), 8, false}, {of(4, 2, 4, 1), 8, false},
		{of(0, 1, 2, 1, 4, 1, 2, 1), 8, false}, {of(6, 1, 4, 1, 2, 1, 0, 1), 8, true}, {of(6, 1, 4, 3, 2, 1, 0, 1), 8, false},
		{of(0, 1, 7, 1, 3, 0), 8, false}, {of(3, 0, 3, 1), 8, false}, {of(0, 1, 1, 1, 2, 1, 3, 1, 4, 1, 5, 1, 6, 1, 7, 1, 8, 1), 9, true},
	} {
		if may(c.l, c.pages) != c.ok {
			t.Fatalf("may(%v, %d): %v", c.l, c.pages, !c.ok)
		}
		checked(t, c.l, c.pages)
	}
}

// TestCheckPages: EX1, each number of pages that may be and some that may not, with stretches that end ahead of it, at it and behind.
func TestCheckPages(t *testing.T) {
	for pages := -3; pages <= 1030; pages++ {
		for end := pages - 2; end <= pages+2; end++ {
			checked(t, of(0, end), pages)
			checked(t, of(end-1, 1), pages)
			checked(t, of(end, 1, 0, 1), pages)
		}
		checked(t, nil, pages)
	}
	for _, pages := range []int{math.MinInt, math.MinInt + 1, math.MinInt32, -1 << 32, -1024, 1 << 16, 1<<32 + 8, math.MaxInt - 1, math.MaxInt} {
		checked(t, nil, pages)
		checked(t, of(0, 1), pages)
		checked(t, of(0, 8), pages)
		checked(t, of(pages-1, 1), pages)
	}
}

// TestCheckEach: EX1, each list of up to three stretches on few pages, those of no pages and beyond both ends too.
func TestCheckEach(t *testing.T) {
	for pages := 1; pages <= 4; pages++ {
		each([]int{-1, 0, 1, 2, 3, 4}, []int{-1, 0, 1, 2, 3, 4, 5}, 3, func(l []extent.Stretch) { checked(t, l, pages) })
	}
	each([]int{1020, 1021, 1022, 1023, 1024}, []int{0, 1, 2, 3, 4, 5}, 3, func(l []extent.Stretch) { checked(t, l, 1024) })
}

// wide are numbers at which a sum of two wraps round.
func wide() []int {
	return []int{math.MinInt, math.MinInt + 1, -1 << 32, -1024, -1, 0, 1, 2, 3, 1023, 1024, 1 << 32, math.MaxInt / 2, math.MaxInt/2 + 1, math.MaxInt - 3, math.MaxInt - 1, math.MaxInt}
}

// TestWide: EX1, EX2, rule 1: the least and the greatest numbers, in one stretch and in two.
func TestWide(t *testing.T) {
	each(wide(), wide(), 2, func(l []extent.Stretch) {
		checked(t, l, 1024)
		checked(t, l, 3)
		numbered(t, l)
		freed(t, l, 1024)
		freed(t, l, 3)
		for _, many := range []int{math.MinInt, 1, math.MaxInt} {
			reserved(t, l, many)
		}
	})
}

// single are so many stretches of one page each, of which each step-th page is one.
func single(n, step int) []extent.Stretch {
	var l []extent.Stretch
	for i := range n {
		l = append(l, extent.Stretch{From: i * step, Many: 1})
	}
	return l
}

// turned are stretches the other way round.
func turned(l []extent.Stretch) []extent.Stretch {
	l = slices.Clone(l)
	slices.Reverse(l)
	return l
}

// TestMany: EX1, as many stretches as there may be, in order and not, and one of their pages twice.
func TestMany(t *testing.T) {
	for _, l := range [][]extent.Stretch{single(1024, 1), single(512, 2), single(9, 100)} {
		for _, l := range [][]extent.Stretch{l, turned(l)} {
			checked(t, l, 1024)
			numbered(t, l)
			freed(t, l, 1024)
			for _, at := range []int{0, 1, len(l) / 2, len(l) - 1} {
				twice := append(slices.Clone(l), l[at])
				checked(t, twice, 1024)
				numbered(t, twice)
				freed(t, twice, 1024)
			}
		}
	}
	checked(t, make([]extent.Stretch, 2000), 1024)
}

// TestPageWritten: EX1, written out: pages are counted in the order in which the stretches stand.
func TestPageWritten(t *testing.T) {
	l := of(5, 2, 0, 3, 1023, 1)
	if n := extent.Many(l); n != 6 {
		t.Errorf("Many: %d", n)
	}
	for n, page := range []int{5, 6, 0, 1, 2, 1023} {
		if got, err := extent.Page(l, n); got != page || err != nil {
			t.Errorf("Page(%d): %d, %v, not %d", n, got, err, page)
		}
		if got, err := extent.Number(l, page); got != n || err != nil {
			t.Errorf("Number(%d): %d, %v, not %d", page, got, err, n)
		}
	}
	for _, n := range []int{-1, 6} {
		page, err := extent.Page(l, n)
		refused(t, "Page", l, true, n, page, err)
	}
	for _, page := range []int{-1, 3, 4, 7, 1022, 1024} {
		n, err := extent.Number(l, page)
		refused(t, "Number", l, true, page, n, err)
	}
	if n := extent.Many(of(0, 1024)); n != 1024 {
		t.Errorf("Many, of all: %d", n)
	}
	if n := extent.Many(of(0, 1025)); n != 0 {
		t.Errorf("Many, of too many: %d", n)
	}
}

// TestPageEach: EX1, EX3, each list of up to three stretches, at both ends of the pages that may be, whatever is asked of it.
func TestPageEach(t *testing.T) {
	each([]int{-1, 0, 1, 3, 4}, []int{-1, 0, 1, 2, 3}, 3, func(l []extent.Stretch) { numbered(t, l) })
	each([]int{0, 1019, 1021, 1022, 1023, 1024}, []int{0, 1, 2, 3, 4}, 3, func(l []extent.Stretch) { numbered(t, l) })
	each([]int{0, 1, 512, 1000}, []int{23, 24, 25, 512, 1023, 1024, 1025}, 2, func(l []extent.Stretch) { numbered(t, l) })
}
