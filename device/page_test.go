package device_test

import (
	"bytes"
	"slices"
	"testing"

	"warren/api"
	"warren/device"
)

// readsPage fails, unless the page n is just that.
func readsPage(t *testing.T, d *device.Device, n int, want []byte) {
	t.Helper()
	got, err := d.ReadPage(n)
	if err != nil || !bytes.Equal(got, want) {
		t.Errorf("ReadPage(%d): %v, %v, not %v", n, got, err, want)
	}
}

// TestPages: DV2, the page n is the sectors from 8 n on, whichever way it was written.
func TestPages(t *testing.T) {
	d := made(t, 3)
	for n := range 24 {
		good(t, "Write", d.Write(n, one(byte(n))))
	}
	for n := range 3 {
		var want []byte
		for part := range 8 {
			want = append(want, one(byte(8*n+part))...)
		}
		readsPage(t, d, n, want)
	}
	page := some(api.Page, 77)
	good(t, "WritePage", d.WritePage(1, page))
	readsPage(t, d, 1, page)
	for n := range 24 {
		want := one(byte(n))
		if n/8 == 1 {
			want = page[n%8*64:][:64]
		}
		reads(t, d, n, want)
	}
}

// TestPageEnds: DV2, the first page and the last one of the greatest device.
func TestPageEnds(t *testing.T) {
	d := made(t, api.MaxPages)
	for _, n := range []int{0, 1023} {
		readsPage(t, d, n, make([]byte, api.Page))
		good(t, "WritePage", d.WritePage(n, some(api.Page, 5)))
		readsPage(t, d, n, some(api.Page, 5))
		good(t, "Sync", d.Sync())
		readsPage(t, d, n, some(api.Page, 5))
	}
	reads(t, d, 8191, some(api.Page, 5)[448:])
	reads(t, d, 8183, noughts())
}

// TestWritePageLeaves: DV2, of a page those sectors alone are written that are another one than what is read: the others are no step, and don't wait.
func TestWritePageLeaves(t *testing.T) {
	for mask := range 256 {
		d := made(t, 2)
		old := some(api.Page, 9)
		good(t, "WritePage", d.WritePage(1, old))
		good(t, "Sync", d.Sync())
		page := slices.Clone(old)
		var want []int
		for part := range 8 {
			if mask>>part&1 == 1 {
				// A single byte is enough, wherever it stands in its sector.
				page[part*64+part*9]++
				want = append(want, 8+part)
			}
		}
		d.Arm(len(want))
		good(t, "WritePage", d.WritePage(1, page))
		wait(t, d, want...)
		readsPage(t, d, 1, page)
		good(t, "WritePage", d.WritePage(1, page))
		wait(t, d, want...)
		wrong(t, "Sync", d.Sync(), api.ErrDown)
	}
}

// TestWritePageWaits: DV2, it is what Read tells that a sector is held against, be that safe or not.
func TestWritePageWaits(t *testing.T) {
	d := made(t, 1)
	good(t, "WritePage", d.WritePage(0, some(api.Page, 1)))
	good(t, "Sync", d.Sync())
	good(t, "Write", d.Write(2, one(50)))
	d.Arm(1)
	// The sector 2 is as it was when it was safe, but another one than what is read.
	good(t, "WritePage", d.WritePage(0, some(api.Page, 1)))
	wait(t, d, 2)
	reads(t, d, 2, some(api.Page, 1)[128:192])
	wrong(t, "Write", d.Write(0, one(1)), api.ErrDown)
	d.Crash([]bool{true})
	readsPage(t, d, 0, some(api.Page, 1))
}

// TestWritePageNoughts: DV2, a page of noughts over one that is not, and over one that is.
func TestWritePageNoughts(t *testing.T) {
	d := made(t, 1)
	d.Arm(0)
	good(t, "WritePage", d.WritePage(0, make([]byte, api.Page)))
	wait(t, d)
	d.Arm(-1)
	good(t, "Write", d.Write(4, one(1)))
	good(t, "WritePage", d.WritePage(0, make([]byte, api.Page)))
	wait(t, d, 4)
	readsPage(t, d, 0, make([]byte, api.Page))
	good(t, "Sync", d.Sync())
	readsPage(t, d, 0, make([]byte, api.Page))
}

// TestWritePageDown: DV2, where the device goes down, the sectors ahead are written, in their order, and no other.
func TestWritePageDown(t *testing.T) {
	for n := range 9 {
		d := made(t, 2)
		d.Arm(n)
		err := d.WritePage(1, some(api.Page, 3))
		if n == 8 {
			good(t, "WritePage", err)
			continue
		}
		wrong(t, "WritePage", err, api.ErrDown)
		var ahead []int
		for part := range n {
			ahead = append(ahead, 8+part)
		}
		wait(t, d, ahead...)
		d.Crash(slices.Repeat([]bool{true}, 8))
		readsPage(t, d, 1, append(some(64*n, 3), make([]byte, 512-64*n)...))
	}
}
