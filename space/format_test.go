package space_test

import (
	"math"
	"slices"
	"testing"

	"warren/api"
	"warren/bitset"
	"warren/device"
	"warren/extent"
	"warren/head"
	"warren/space"
)

// plot is where a space lies, of a device of so many pages.
type plot struct {
	pages int
	ext   []extent.Stretch
}

// plots are from the fewest pages to the most, at both ends of a device, in one stretch and in eight that do not ascend.
func plots() []plot {
	l := []plot{
		{3, stretches(0, 3)},
		{8, stretches(5, 3)},
		{8, stretches(4, 1, 2, 1, 7, 1)},
		{40, eight},
		{1024, stretches(0, 1024)},
		{1024, stretches(1, 1022)},
	}
	var parts []int
	for i := range 8 {
		parts = append(parts, (7-i)*128, 128)
	}
	return append(l, plot{1024, stretches(parts...)})
}

// bad are stretches that no space may have, of a device of 40 pages.
func bad() map[string][]extent.Stretch {
	return map[string][]extent.Stretch{
		"none":                nil,
		"two pages":           stretches(4, 2),
		"two, apart":          stretches(4, 1, 9, 1),
		"nine":                append(slices.Clone(eight), stretches(15, 1)...),
		"below 0":             stretches(-1, 5),
		"behind the end":      stretches(37, 4),
		"far behind":          stretches(40, 3),
		"all behind 0":        stretches(0, 41),
		"one that is empty":   stretches(0, 5, 9, 0),
		"less than none":      stretches(0, 5, 9, -1),
		"a page of two":       stretches(0, 5, 4, 5),
		"a page of two, down": stretches(9, 5, 6, 4),
		"one twice":           stretches(4, 3, 4, 3),
		"the greatest":        stretches(math.MaxInt, math.MaxInt),
		"wrapping round":      stretches(math.MaxInt, 3),
		"the least":           stretches(math.MinInt, 5),
	}
}

// downed is a device of 40 pages that is down.
func downed(t *testing.T) *device.Device {
	t.Helper()
	d := made(t, 40)
	d.Arm(0)
	wrong(t, "Sync", d.Sync(), api.ErrDown)
	return d
}

// steps are how many steps what is done to a device takes: with fewer it goes down, and with so many it does not.
// Each time on a copy; behind each that goes down look sees it.
func steps(t *testing.T, what string, d *device.Device, do func(*device.Device) error, look func(n int, c *device.Device)) int {
	t.Helper()
	for n := 0; ; n++ {
		c := d.Copy()
		c.Arm(n)
		err := do(c)
		if !c.Down() {
			good(t, what, err)
			return n
		}
		wrong(t, what, err, api.ErrDown)
		look(n, c)
	}
}

// TestExample: formatted and opened: the empty tree, Seq 0.
func TestExample(t *testing.T) {
	s := formatted(t, made(t, 8), stretches(4, 4))
	isSpace(t, "formatted", s, 0, nil, 4)
}

// TestFormat: SE1, all pages are noughts but the one of the head of Seq 0; those of others stay what they are.
func TestFormat(t *testing.T) {
	for i, p := range plots() {
		for _, d := range []*device.Device{made(t, p.pages), marked(t, p.pages)} {
			for _, n := range [][2]uint64{{tenant, gen}, {0, 0}, {1, 2}, {last, 0}, {0, last}, {last, last}} {
				was := pagesOf(t, d)
				ext := slices.Clone(p.ext)
				good(t, "Format", space.Format(d, ext, n[0], n[1]))
				if !slices.Equal(ext, p.ext) {
					t.Errorf("plot %d: what was handed in is changed", i)
				}
				pages := numbered(pagesOf(t, d), p.ext)
				for at, b := range pages {
					if at == 0 && !slices.Equal(b, told(head.Head{Tenant: n[0], Gen: n[1]})) {
						t.Errorf("plot %d, %v: the head's page is %x", i, n, b)
					}
					if at > 0 && !isNoughts(b) {
						t.Errorf("plot %d, %v: page %d is not noughts", i, n, at)
					}
				}
				outside(t, "Format", d, p.ext, was)
				if len(d.Waiting()) != 0 {
					t.Errorf("plot %d, %v: %v wait", i, n, d.Waiting())
				}
				s, err := space.Open(d, p.ext, n[0], n[1])
				good(t, "Open", err)
				isSpace(t, "formatted", s, 0, nil, len(places(p.ext)))
			}
		}
	}
}

// TestFormatSteps: SE1, what is not noughts is written, and synced if there was any, ahead of the head; so many steps there are.
func TestFormatSteps(t *testing.T) {
	first := told(head.Head{Tenant: tenant, Gen: gen})
	laid := made(t, 40)
	s := formatted(t, laid, eight)
	good(t, "Commit", s.Commit(with(t, s.Tree(), "k", 20, 30), bitset.Set{}))
	for what, d := range map[string]*device.Device{"noughts": made(t, 40), "marked": marked(t, 40), "a space": laid} {
		many := sectors(numbered(pagesOf(t, d), eight)...)
		sync := min(many, 1)
		got := steps(t, what, d, func(c *device.Device) error { return space.Format(c, eight, tenant, gen) }, func(n int, c *device.Device) {
			if n >= many+sync && sectors(numbered(safeOf(t, c), eight)...) != 0 {
				t.Errorf("%s: step %d, and what was there is safe still", what, n)
			}
		})
		if want := many + sync + sectors(first) + 1; got != want {
			t.Errorf("%s: Format has %d steps, not %d", what, got, want)
		}
		got = steps(t, what, d, func(c *device.Device) error { return space.Wipe(c, eight) }, func(int, *device.Device) {})
		if want := many + sync; got != want {
			t.Errorf("%s: Wipe has %d steps, not %d", what, got, want)
		}
	}
}

// TestWipe: SE1, all pages are noughts, those of the heads too; those of others stay what they are.
func TestWipe(t *testing.T) {
	for i, p := range plots() {
		d := marked(t, p.pages)
		for range 2 {
			was := pagesOf(t, d)
			ext := slices.Clone(p.ext)
			good(t, "Wipe", space.Wipe(d, ext))
			if !slices.Equal(ext, p.ext) {
				t.Errorf("plot %d: what was handed in is changed", i)
			}
			if sectors(numbered(safeOf(t, d), p.ext)...) != 0 || len(d.Waiting()) != 0 {
				t.Errorf("plot %d: not all pages are noughts", i)
			}
			outside(t, "Wipe", d, p.ext, was)
			closed(t, "Open, wiped", d, p.ext, tenant, gen, api.ErrCorrupt)
			good(t, "Format", space.Format(d, p.ext, tenant, gen))
		}
	}
}

// TestWrong: SE1, SE2, stretches that may not be, and a tenant or a generation above 2^62; nothing is done then.
func TestWrong(t *testing.T) {
	d := marked(t, 40)
	good(t, "Format", space.Format(d, eight, tenant, gen))
	was := pagesOf(t, d)
	d.Arm(0)
	for what, ext := range bad() {
		handed := slices.Clone(ext)
		wrong(t, "Format, "+what, space.Format(d, ext, tenant, gen), api.ErrArg)
		closed(t, "Open, "+what, d, ext, tenant, gen, api.ErrArg)
		wrong(t, "Wipe, "+what, space.Wipe(d, ext), api.ErrArg)
		if !slices.Equal(ext, handed) {
			t.Errorf("%s: what was handed in is changed", what)
		}
	}
	for _, n := range [][2]uint64{{last + 1, gen}, {tenant, last + 1}, {math.MaxUint64, 0}, {0, math.MaxUint64}, {last + 1, last + 1}} {
		wrong(t, "Format", space.Format(d, eight, n[0], n[1]), api.ErrArg)
		closed(t, "Open", d, eight, n[0], n[1], api.ErrArg)
	}
	same(t, "what was refused", d, was)
	if d.Down() {
		t.Error("what was refused had a step")
	}
}

// TestStretches: SE1, each two stretches of few pages, of a device of six: they may be, or not.
func TestStretches(t *testing.T) {
	of := func(s extent.Stretch) bool { return s.From >= 0 && s.Many >= 1 && s.From+s.Many <= 6 }
	for i := range 8 * 8 * 8 * 8 {
		a, b := extent.Stretch{From: i%8 - 1, Many: i/8%8 - 1}, extent.Stretch{From: i/64%8 - 1, Many: i/512 - 1}
		apart := a.From+a.Many <= b.From || b.From+b.Many <= a.From
		may := of(a) && of(b) && apart && a.Many+b.Many >= 3
		d := made(t, 6)
		err := space.Format(d, []extent.Stretch{a, b}, tenant, gen)
		if !may {
			wrong(t, "Format", err, api.ErrArg)
			wrong(t, "Wipe", space.Wipe(d, []extent.Stretch{a, b}), api.ErrArg)
			continue
		}
		good(t, "Format", err)
		isSpace(t, "formatted", opened(t, d, []extent.Stretch{a, b}), 0, nil, a.Many+b.Many)
		good(t, "Wipe", space.Wipe(d, []extent.Stretch{a, b}))
	}
}

// TestNoDevice: SE1, SE2, a device that is down, or none, is told ahead of all else.
func TestNoDevice(t *testing.T) {
	for _, d := range []*device.Device{nil, downed(t)} {
		for _, ext := range [][]extent.Stretch{nil, eight, stretches(-1, 1)} {
			for _, n := range []uint64{tenant, math.MaxUint64} {
				wrong(t, "Format", space.Format(d, ext, n, n), api.ErrDown)
				closed(t, "Open", d, ext, n, n, api.ErrDown)
			}
			wrong(t, "Wipe", space.Wipe(d, ext), api.ErrDown)
		}
	}
}
