package extent

import (
	"slices"

	"warren/api"
)

// Free is what is left of so many pages.
func Free(l []Stretch, pages int) ([]Stretch, error) {
	if Check(l, pages) != nil {
		return nil, api.ErrArg
	}
	var free []Stretch
	at := 0
	// The last page is followed by a stretch of none, so that what is free ahead of it is found like all else.
	for _, s := range append(ordered(l), Stretch{From: pages}) {
		if s.From > at {
			free = append(free, Stretch{From: at, Many: s.From - at})
		}
		at = s.end()
	}
	return free, nil
}

// Reserve are stretches of so many pages, out of what is left, and what is left then.
func Reserve(free []Stretch, many int) ([]Stretch, []Stretch, error) {
	if Check(free, api.MaxPages) != nil || !slices.Equal(free, ordered(free)) || many < 1 {
		return nil, nil, api.ErrArg
	}
	var taken, left []Stretch
	for _, s := range free {
		n := min(many, s.Many)
		if n > 0 {
			taken = append(taken, Stretch{From: s.From, Many: n})
		}
		if n < s.Many {
			left = append(left, Stretch{From: s.From + n, Many: s.Many - n})
		}
		many -= n
	}
	if many > 0 || len(taken) > api.MaxExtents {
		return nil, nil, api.ErrFull
	}
	return taken, left, nil
}
