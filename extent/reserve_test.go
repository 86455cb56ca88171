package extent_test

import (
	"math"
	"slices"
	"testing"

	"warren/api"
	"warren/extent"
)

// runs are pages that ascend as stretches, no two beside one another.
func runs(pages []int) []extent.Stretch {
	var l []extent.Stretch
	for _, page := range pages {
		if n := len(l); n > 0 && l[n-1].From+l[n-1].Many == page {
			l[n-1].Many++
			continue
		}
		l = append(l, extent.Stretch{From: page, Many: 1})
	}
	return l
}

// others are those of so many pages that are not of a list.
func others(l []int, pages int) []int {
	var other []int
	for page := range pages {
		if !slices.Contains(l, page) {
			other = append(other, page)
		}
	}
	return other
}

// ascending tells whether each stretch begins behind the one ahead.
func ascending(l []extent.Stretch) bool {
	for i := 1; i < len(l); i++ {
		if l[i].From <= l[i-1].From {
			return false
		}
	}
	return true
}

// parted are the first pages of stretches, so many, and what is left, told page by page; true, unless there are fewer.
func parted(free []extent.Stretch, many int) (taken, left []extent.Stretch, ok bool) {
	for _, s := range free {
		front, back := extent.Stretch{From: s.From}, extent.Stretch{}
		for page := s.From; page < s.From+s.Many; page++ {
			switch {
			case many > 0:
				front.Many, many = front.Many+1, many-1
			case back.Many == 0:
				back = extent.Stretch{From: page, Many: 1}
			default:
				back.Many++
			}
		}
		if front.Many > 0 {
			taken = append(taken, front)
		}
		if back.Many > 0 {
			left = append(left, back)
		}
	}
	return taken, left, many == 0
}

// freed fails, unless Free answers what is of none of those stretches.
func freed(t *testing.T, l []extent.Stretch, pages int) {
	t.Helper()
	was := slices.Clone(l)
	got, err := extent.Free(l, pages)
	if !slices.Equal(l, was) {
		t.Fatalf("Free changes %v to %v", was, l)
	}
	if !may(l, pages) {
		if len(got) > 0 {
			t.Fatalf("Free(%v, %d): %v beside an error", l, pages, got)
		}
		wrong(t, "Free", l, err, api.ErrArg)
		return
	}
	if want := runs(others(listed(l), pages)); !slices.Equal(got, want) || err != nil {
		t.Fatalf("Free(%v, %d): %v, %v, not %v", l, pages, got, err, want)
	}
}

// reserved fails, unless Reserve answers the first of those pages, and what is left.
func reserved(t *testing.T, free []extent.Stretch, many int) {
	t.Helper()
	was := slices.Clone(free)
	taken, left, err := extent.Reserve(free, many)
	if !slices.Equal(free, was) {
		t.Fatalf("Reserve changes %v to %v", was, free)
	}
	if err != nil && len(taken)+len(left) > 0 {
		t.Fatalf("Reserve(%v, %d): %v, %v beside an error", free, many, taken, left)
	}
	if many < 1 || !may(free, 1024) || !ascending(free) {
		wrong(t, "Reserve", free, err, api.ErrArg)
		return
	}
	front, back, ok := parted(free, many)
	if !ok || len(front) > 8 {
		wrong(t, "Reserve", free, err, api.ErrFull)
		return
	}
	if !slices.Equal(taken, front) || !slices.Equal(left, back) || err != nil {
		t.Fatalf("Reserve(%v, %d): %v, %v, %v, not %v, %v", free, many, taken, left, err, front, back)
	}
}

// asks fails, unless Reserve answers rightly of those stretches, whatever number is asked for.
func asks(t *testing.T, free []extent.Stretch) {
	t.Helper()
	all := 0
	if may(free, 1024) {
		all = len(listed(free))
	}
	for many := -2; many <= all+2; many++ {
		reserved(t, free, many)
	}
	for _, many := range []int{math.MinInt, math.MinInt + 1, -1024, 1023, 1024, 1025, 1 << 32, math.MaxInt - 1, math.MaxInt} {
		reserved(t, free, many)
	}
}

// TestFreeWritten: EX2, written out: at both ends and between, and of stretches that stand in no order, or beside one another.
func TestFreeWritten(t *testing.T) {
	for _, c := range []struct {
		l     []extent.Stretch
		pages int
		want  []extent.Stretch
	}{
		{nil, 1, of(0, 1)}, {nil, 10, of(0, 10)}, {[]extent.Stretch{}, 1024, of(0, 1024)}, {of(0, 10), 10, nil}, {of(0, 1), 1, nil},
		{of(3, 2), 10, of(0, 3, 5, 5)}, {of(0, 3), 10, of(3, 7)}, {of(7, 3), 10, of(0, 7)}, {of(1, 8), 10, of(0, 1, 9, 1)},
		{of(7, 1, 3, 2), 10, of(0, 3, 5, 2, 8, 2)}, {of(5, 2, 3, 2), 10, of(0, 3, 7, 3)}, {of(3, 2, 5, 2), 10, of(0, 3, 7, 3)},
		{of(5, 5, 0, 5), 10, nil}, {of(9, 1, 0, 1), 10, of(1, 8)}, {of(0, 4), 1024, of(4, 1020)}, {of(1023, 1, 0, 4), 1024, of(4, 1019)},
	} {
		if got, err := extent.Free(c.l, c.pages); !slices.Equal(got, c.want) || err != nil {
			t.Errorf("Free(%v, %d): %v, %v, not %v", c.l, c.pages, got, err, c.want)
		}
		freed(t, c.l, c.pages)
	}
	for _, pages := range []int{math.MinInt, -1, 0, 1025, math.MaxInt} {
		freed(t, nil, pages)
		freed(t, of(0, 1), pages)
	}
}

// TestFreeEach: EX2, each list of up to three stretches on few pages, those that may not be too, and each number of pages.
func TestFreeEach(t *testing.T) {
	for pages := 1; pages <= 5; pages++ {
		each([]int{-1, 0, 1, 2, 3, 4}, []int{0, 1, 2, 3, 4, 5}, 3, func(l []extent.Stretch) { freed(t, l, pages) })
	}
	for pages := -2; pages <= 1026; pages++ {
		freed(t, nil, pages)
		freed(t, of(pages-1, 1), pages)
		freed(t, of(pages/2, 1), pages)
	}
}

// TestReserveWritten: EX2, written out.
func TestReserveWritten(t *testing.T) {
	for _, c := range []struct {
		free        []extent.Stretch
		many        int
		taken, left []extent.Stretch
	}{
		{of(0, 3, 5, 5), 4, of(0, 3, 5, 1), of(6, 4)}, {of(0, 3, 5, 5), 3, of(0, 3), of(5, 5)}, {of(0, 3, 5, 5), 2, of(0, 2), of(2, 1, 5, 5)},
		{of(0, 3, 5, 5), 1, of(0, 1), of(1, 2, 5, 5)}, {of(0, 3, 5, 5), 8, of(0, 3, 5, 5), nil}, {of(0, 3, 5, 5), 7, of(0, 3, 5, 4), of(9, 1)},
		{of(0, 1024), 1024, of(0, 1024), nil}, {of(0, 1024), 1, of(0, 1), of(1, 1023)}, {of(1023, 1), 1, of(1023, 1), nil},
		{of(4, 1, 10, 1, 20, 9), 2, of(4, 1, 10, 1), of(20, 9)}, {of(4, 2, 6, 2), 3, of(4, 2, 6, 1), of(7, 1)}, {of(4, 2, 6, 2), 4, of(4, 2, 6, 2), nil},
		{single(8, 2), 8, single(8, 2), nil}, {single(9, 2), 8, single(8, 2), of(16, 1)}, {append(single(7, 2), of(20, 5)...), 10, append(single(7, 2), of(20, 3)...), of(23, 2)},
	} {
		taken, left, err := extent.Reserve(c.free, c.many)
		if !slices.Equal(taken, c.taken) || !slices.Equal(left, c.left) || err != nil {
			t.Errorf("Reserve(%v, %d): %v, %v, %v, not %v, %v", c.free, c.many, taken, left, err, c.taken, c.left)
		}
	}
}

// TestReserveWrong: EX2, written out: each reason for an error, and which one is told where there are several.
func TestReserveWrong(t *testing.T) {
	for _, c := range []struct {
		free []extent.Stretch
		many int
		want api.Errno
	}{
		{nil, 1, api.ErrFull}, {[]extent.Stretch{}, 1, api.ErrFull}, {nil, 0, api.ErrArg}, {nil, -1, api.ErrArg}, {of(0, 3, 5, 5), 0, api.ErrArg}, {of(0, 3, 5, 5), math.MinInt, api.ErrArg},
		{of(0, 3, 5, 5), 9, api.ErrFull}, {of(0, 3, 5, 5), math.MaxInt, api.ErrFull}, {of(0, 1024), 1025, api.ErrFull},
		{of(5, 5, 0, 3), 1, api.ErrArg}, {of(5, 5, 0, 3), 9, api.ErrArg}, {of(0, 1, 9, 1, 5, 1), 1, api.ErrArg}, {of(0, 3, 2, 1), 1, api.ErrArg}, {of(4, 1, 4, 1), 1, api.ErrArg},
		{of(0, 1025), 1, api.ErrArg}, {of(1024, 1), 1, api.ErrArg}, {of(0, 3, 1023, 2), 1, api.ErrArg}, {of(-1, 2), 1, api.ErrArg}, {of(0, 0), 1, api.ErrArg}, {of(0, 0), 2000, api.ErrArg},
		{single(9, 2), 9, api.ErrFull}, {single(9, 2), 10, api.ErrFull}, {append(single(8, 2), of(100, 900)...), 9, api.ErrFull}, {single(1024, 1), 9, api.ErrFull}, {single(1024, 1), 1024, api.ErrFull},
		{turned(single(9, 2)), 9, api.ErrArg}, {turned(single(9, 2)), 1, api.ErrArg},
	} {
		taken, left, err := extent.Reserve(c.free, c.many)
		if len(taken)+len(left) > 0 {
			t.Errorf("Reserve(%v, %d): %v, %v beside an error", c.free, c.many, taken, left)
		}
		wrong(t, "Reserve", c.free, err, c.want)
	}
}

// TestReserveEach: EX2, EX3, each list of up to three stretches, those that may not be or do not ascend too, and each number that is asked for.
func TestReserveEach(t *testing.T) {
	each([]int{-1, 0, 1, 2, 3, 5}, []int{0, 1, 2, 3}, 3, func(l []extent.Stretch) { asks(t, l) })
	each([]int{0, 1019, 1021, 1022, 1023, 1024}, []int{0, 1, 2, 3}, 3, func(l []extent.Stretch) { asks(t, l) })
}

// TestReserveMany: EX2, about as many stretches as may be needed, of each few sizes, apart or beside one another.
func TestReserveMany(t *testing.T) {
	for n := 6; n <= 11; n++ {
		for size := 1; size <= 4; size++ {
			for besides := range 3 {
				var free []extent.Stretch
				for i := range n {
					free = append(free, extent.Stretch{From: 7 + i*(size+besides), Many: size})
				}
				asks(t, free)
				asks(t, turned(free))
			}
		}
	}
}

// dice throws numbers that are the same each time.
type dice uint32

// under is one below n.
func (d *dice) under(n int) int {
	*d = *d*1664525 + 1013904223
	return int(*d>>8) % n
}

// TestWalk: EX3, spaces that get pages and lose them: what is reserved, and what is left, are what was free.
func TestWalk(t *testing.T) {
	d := dice(16)
	full := 0
	for range 100 {
		pages := 8 + d.under(300)
		spaces := [][]extent.Stretch{of(0, 4)}
		for range 60 {
			if n := len(spaces); n > 1 && d.under(3) == 0 {
				at := 1 + d.under(n-1)
				spaces = slices.Delete(spaces, at, at+1)
				continue
			}
			if ext := taken(t, slices.Concat(spaces...), pages, 1+d.under(40)); ext != nil {
				spaces = append(spaces, ext)
			} else {
				full++
			}
		}
	}
	if full < 200 || full > 4000 {
		t.Errorf("of all, %d had no room", full)
	}
}

// taken are stretches for a new space, out of what is free; nothing, if there is no room.
func taken(t *testing.T, all []extent.Stretch, pages, many int) []extent.Stretch {
	t.Helper()
	freed(t, all, pages)
	free, _ := extent.Free(all, pages)
	reserved(t, free, many)
	ext, left, err := extent.Reserve(free, many)
	if err != nil {
		return nil
	}
	both := append(listed(ext), listed(left)...)
	slices.Sort(both)
	if extent.Many(ext) != many || !slices.Equal(both, listed(free)) {
		t.Fatalf("Reserve(%v, %d): %v, %v: they are not what was free", free, many, ext, left)
	}
	if err := extent.Check(slices.Concat(all, ext, left), pages); err != nil || extent.Many(slices.Concat(all, ext, left)) != pages {
		t.Fatalf("Reserve(%v, %d): %v, %v: with %v they are not %d pages", free, many, ext, left, all, pages)
	}
	numbered(t, ext)
	return ext
}

// scribbled fills a list, its spare room too.
func scribbled(l []extent.Stretch) {
	l = l[:cap(l)]
	for i := range l {
		l[i] = extent.Stretch{From: -7, Many: -7}
	}
}

// TestNew: rule 3: what is answered is nobody else's, its spare room too, and what is handed in stays, its spare room too.
func TestNew(t *testing.T) {
	for n := range 12 {
		for many := 1; many <= min(2*n, 16); many++ {
			room := make([]extent.Stretch, n+3)
			for i := range room {
				room[i] = extent.Stretch{From: 3 * i, Many: 2}
			}
			was := slices.Clone(room)
			one, less, _ := extent.Reserve(room[:n], many)
			two, more, _ := extent.Reserve(room[:n], many)
			ext, left, _ := parted(was[:n], many)
			scribbled(one)
			if !slices.Equal(less, left) || !slices.Equal(two, ext) || !slices.Equal(more, left) || !slices.Equal(room, was) {
				t.Fatalf("Reserve(%v, %d): what is reserved shares", was[:n], many)
			}
			scribbled(more)
			if !slices.Equal(less, left) || !slices.Equal(two, ext) || !slices.Equal(room, was) {
				t.Fatalf("Reserve(%v, %d): what is left shares", was[:n], many)
			}
			free, _ := extent.Free(room[:n], 40)
			again, _ := extent.Free(room[:n], 40)
			scribbled(free)
			if !slices.Equal(again, runs(others(listed(was[:n]), 40))) || !slices.Equal(room, was) {
				t.Fatalf("Free(%v): it shares", was[:n])
			}
		}
	}
}
