package device_test

import (
	"bytes"
	"errors"
	"math"
	"slices"
	"testing"

	"warren/api"
	"warren/device"
)

// made is a device of so many pages.
func made(t *testing.T, pages int) *device.Device {
	t.Helper()
	d, err := device.New(pages)
	if err != nil || d == nil {
		t.Fatalf("New(%d): %v, %v", pages, d, err)
	}
	return d
}

// some are so many bytes, none of them 0: each seed up to 250 another row, and each sector of a page.
func some(n int, seed byte) []byte {
	b := make([]byte, n)
	for i := range b {
		b[i] = byte(1 + (int(seed)*8+i)%251)
	}
	return b
}

// one is a sector.
func one(seed byte) []byte { return some(api.Sector, seed) }

// noughts is a sector of them.
func noughts() []byte { return make([]byte, api.Sector) }

// wrong fails, unless the error's number is that one.
func wrong(t *testing.T, what string, err error, want api.Errno) {
	t.Helper()
	var no api.Errno
	if !errors.As(err, &no) || no != want {
		t.Errorf("%s: %v, not %d", what, err, int(want))
	}
}

// good fails, if there is an error.
func good(t *testing.T, what string, err error) {
	t.Helper()
	if err != nil {
		t.Errorf("%s: %v", what, err)
	}
}

// reads fails, unless the sector n is just that.
func reads(t *testing.T, d *device.Device, n int, want []byte) {
	t.Helper()
	got, err := d.Read(n)
	if err != nil || !bytes.Equal(got, want) {
		t.Errorf("Read(%d): %v, %v, not %v", n, got, err, want)
	}
}

// wait fails, unless just those sectors are not safe.
func wait(t *testing.T, d *device.Device, want ...int) {
	t.Helper()
	if got := d.Waiting(); !slices.Equal(got, want) {
		t.Errorf("Waiting: %v, not %v", got, want)
	}
}

// outside are numbers of which there is none among so many.
func outside(many int) []int {
	return []int{math.MinInt, -many, -1, many, many + 1, math.MaxInt / api.Parts, math.MaxInt/api.Parts + 1, math.MaxInt}
}

// TestNew: DV1, from one page to as many as may be, of noughts.
func TestNew(t *testing.T) {
	for _, pages := range []int{1, 2, 200, 1023, 1024} {
		d := made(t, pages)
		if d.Pages() != pages || d.Down() {
			t.Errorf("New(%d): %d pages, down: %t", pages, d.Pages(), d.Down())
		}
		wait(t, d)
		for n := range pages * api.Parts {
			reads(t, d, n, noughts())
		}
	}
}

// TestNewWrong: DV1, numbers of pages that may not be.
func TestNewWrong(t *testing.T) {
	for _, pages := range []int{math.MinInt, -1024, -1, 0, 1025, 1 << 20, math.MaxInt} {
		d, err := device.New(pages)
		wrong(t, "New", err, api.ErrRange)
		if d != nil {
			t.Errorf("New(%d): a device beside an error", pages)
		}
	}
}

// TestUnarmed: DV3, a device goes down at no step, till it is armed.
func TestUnarmed(t *testing.T) {
	d := made(t, 1)
	for n := range 2000 {
		good(t, "Write", d.Write(n%api.Parts, one(byte(n))))
		good(t, "Sync", d.Sync())
	}
}

// TestWrite: DV1, what was written last is read, at both ends too, and nothing beside it is changed.
func TestWrite(t *testing.T) {
	for _, n := range []int{0, 1, 7, 8, 9, 15, 16, 23} {
		d := made(t, 3)
		for _, b := range [][]byte{one(1), one(2), noughts(), one(3)} {
			good(t, "Write", d.Write(n, b))
			for k := range 24 {
				want := noughts()
				if k == n {
					want = b
				}
				reads(t, d, k, want)
			}
			wait(t, d, n)
		}
		good(t, "Sync", d.Sync())
		reads(t, d, n, one(3))
		wait(t, d)
	}
}

// TestWriteAlike: DV1, a sector that is written as it was is not safe either.
func TestWriteAlike(t *testing.T) {
	d := made(t, 1)
	good(t, "Write", d.Write(3, noughts()))
	wait(t, d, 3)
	good(t, "Write", d.Write(2, one(1)))
	good(t, "Sync", d.Sync())
	wait(t, d)
	good(t, "Write", d.Write(2, one(1)))
	wait(t, d, 2)
	reads(t, d, 2, one(1))
}

// TestRange: DV1 and DV2, sectors and pages that are none, told ahead of bytes that may not be.
func TestRange(t *testing.T) {
	d := made(t, 3)
	for _, n := range outside(24) {
		b, err := d.Read(n)
		wrong(t, "Read", err, api.ErrRange)
		if b != nil {
			t.Errorf("Read(%d): %v beside an error", n, b)
		}
		wrong(t, "Write", d.Write(n, one(1)), api.ErrRange)
		wrong(t, "Write", d.Write(n, nil), api.ErrRange)
	}
	for _, n := range append(outside(3), 23, 24) {
		b, err := d.ReadPage(n)
		wrong(t, "ReadPage", err, api.ErrRange)
		if b != nil {
			t.Errorf("ReadPage(%d): %v beside an error", n, b)
		}
		wrong(t, "WritePage", d.WritePage(n, some(api.Page, 1)), api.ErrRange)
		wrong(t, "WritePage", d.WritePage(n, nil), api.ErrRange)
	}
	wait(t, d)
}

// TestArg: DV1 and DV2, bytes that are no sector, or no page: nothing is written.
func TestArg(t *testing.T) {
	d := made(t, 2)
	for _, size := range []int{0, 1, 63, 65, 128, 511, 513, 1024} {
		wrong(t, "Write", d.Write(0, some(size, 1)), api.ErrArg)
		wrong(t, "WritePage", d.WritePage(0, some(size, 1)), api.ErrArg)
	}
	wrong(t, "Write", d.Write(15, nil), api.ErrArg)
	wrong(t, "Write", d.Write(15, some(api.Page, 1)), api.ErrArg)
	wrong(t, "WritePage", d.WritePage(1, nil), api.ErrArg)
	wrong(t, "WritePage", d.WritePage(1, one(1)), api.ErrArg)
	wait(t, d)
	for n := range 16 {
		reads(t, d, n, noughts())
	}
}

// TestShares: rule 3, what was handed in is neither changed nor kept, and an answer is new memory.
func TestShares(t *testing.T) {
	d := made(t, 2)
	b, page := one(1), some(api.Page, 2)
	good(t, "Write", d.Write(0, b))
	good(t, "WritePage", d.WritePage(1, page))
	if !bytes.Equal(b, one(1)) || !bytes.Equal(page, some(api.Page, 2)) {
		t.Error("what was handed in is changed")
	}
	clear(b)
	clear(page)
	for range 2 {
		reads(t, d, 0, one(1))
		got, err := d.Read(0)
		good(t, "Read", err)
		clear(got[:cap(got)])
		got, err = d.ReadPage(1)
		if err != nil || !bytes.Equal(got, some(api.Page, 2)) {
			t.Errorf("ReadPage: %v, %v", got, err)
		}
		clear(got[:cap(got)])
		l := d.Waiting()
		if len(l) != 9 {
			t.Errorf("Waiting: %v", l)
		}
		clear(l[:cap(l)])
	}
	good(t, "Sync", d.Sync())
	reads(t, d, 0, one(1))
	got, _ := d.Read(0)
	clear(got)
	reads(t, d, 0, one(1))
}

// TestNil: a nil device has nothing, and is down.
func TestNil(t *testing.T) {
	var d *device.Device
	d.Arm(3)
	d.Crash([]bool{true})
	d.Crash(nil)
	if d.Pages() != 0 || !d.Down() || d.Waiting() != nil || d.Copy() != nil {
		t.Errorf("nil: %d, %t, %v, %v", d.Pages(), d.Down(), d.Waiting(), d.Copy())
	}
	for _, n := range []int{math.MinInt, -1, 0, 1, math.MaxInt} {
		b, err := d.Read(n)
		wrong(t, "Read", err, api.ErrDown)
		p, err := d.ReadPage(n)
		wrong(t, "ReadPage", err, api.ErrDown)
		if b != nil || p != nil {
			t.Errorf("nil: %v, %v beside an error", b, p)
		}
		wrong(t, "Write", d.Write(n, one(1)), api.ErrDown)
		wrong(t, "Write", d.Write(n, nil), api.ErrDown)
		wrong(t, "WritePage", d.WritePage(n, some(api.Page, 1)), api.ErrDown)
		wrong(t, "WritePage", d.WritePage(n, nil), api.ErrDown)
	}
	wrong(t, "Sync", d.Sync(), api.ErrDown)
}
