package space

import (
	"slices"

	"warren/api"
	"warren/device"
	"warren/extent"
	"warren/plan"
	"warren/sheet"
)

// fewest is how many pages a space has at least: those of both heads, and one to lay a tree on.
const fewest = 3

// area are the pages of a space, numbered through its stretches of a device.
type area struct {
	device *device.Device
	ext    []extent.Stretch
	lost   bool // the device went down at a step of the space: nobody knows what of that was kept
}

// areaOf is a space's, on a device that is up, and on stretches that may be.
func areaOf(d *device.Device, ext []extent.Stretch) (area, error) {
	if d.Down() {
		return area{}, api.ErrDown
	}
	if !may(ext, d.Pages()) {
		return area{}, api.ErrArg
	}
	return area{device: d, ext: slices.Clone(ext)}, nil
}

// may tells whether the stretches of a space may be, of so many pages of a device.
func may(ext []extent.Stretch, pages int) bool {
	return extent.Check(ext, pages) == nil && len(ext) <= api.MaxExtents && extent.Many(ext) >= fewest
}

// down tells whether nothing can be done any more.
func (a *area) down() bool { return a.lost || a.device.Down() }

// read are all pages, in order. They are there, and the device is up, so that none has an error.
func (a *area) read() [][]byte {
	var pages [][]byte
	for _, s := range a.ext {
		for i := range s.Many {
			b, _ := a.device.ReadPage(s.From + i)
			pages = append(pages, b)
		}
	}
	return pages
}

// lay writes pages, and lets them be safe.
func (a *area) lay(writes []plan.Write) error {
	for _, w := range writes {
		at, _ := extent.Page(a.ext, w.Page)
		if err := a.step(a.device.WritePage(at, w.Bytes)); err != nil {
			return err
		}
	}
	return a.step(a.device.Sync())
}

// step is the error of a step, which is none but that the device went down: the page is there, and has its bytes.
func (a *area) step(err error) error {
	a.lost = err != nil
	return err
}

// blank lets pages be noughts that are not.
func (a *area) blank(numbers []int) error {
	if len(numbers) == 0 {
		// A sync would be a step, at which the device may go down.
		return nil
	}
	var writes []plan.Write
	for _, n := range numbers {
		writes = append(writes, noughts(n))
	}
	return a.lay(writes)
}

// noughts is the page of a number, of noughts alone.
func noughts(n int) plan.Write { return plan.Write{Page: n, Bytes: make([]byte, api.Page)} }

// wipe lets all pages be noughts, those of the heads too.
func (a *area) wipe() error {
	var marked []int
	for n, page := range a.read() {
		if !sheet.Blank(page) {
			marked = append(marked, n)
		}
	}
	return a.blank(marked)
}
