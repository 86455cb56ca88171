package device_test

import (
	"math"
	"slices"
	"testing"

	"warren/api"
	"warren/device"
)

// isDown fails, unless the device is down: nothing but what waits is told of it, and nothing is done.
func isDown(t *testing.T, d *device.Device) {
	t.Helper()
	pages, waits := d.Pages(), d.Waiting()
	if !d.Down() {
		t.Error("it is not down")
	}
	for _, n := range []int{-1, 0, pages * api.Parts} {
		b, err := d.Read(n)
		wrong(t, "Read", err, api.ErrDown)
		p, err := d.ReadPage(n)
		wrong(t, "ReadPage", err, api.ErrDown)
		if b != nil || p != nil {
			t.Errorf("down: %v, %v beside an error", b, p)
		}
		wrong(t, "Write", d.Write(n, one(1)), api.ErrDown)
		wrong(t, "Write", d.Write(n, nil), api.ErrDown)
		wrong(t, "WritePage", d.WritePage(n, some(api.Page, 1)), api.ErrDown)
		wrong(t, "WritePage", d.WritePage(n, make([]byte, api.Page)), api.ErrDown)
		wrong(t, "WritePage", d.WritePage(n, nil), api.ErrDown)
	}
	wrong(t, "Sync", d.Sync(), api.ErrDown)
	if d.Pages() != pages || !slices.Equal(d.Waiting(), waits) {
		t.Errorf("down: %d pages, waiting %v, not %d, %v", d.Pages(), d.Waiting(), pages, waits)
	}
}

// TestArm: DV3, so many steps are done, be they writes or syncs, and the next one is not.
func TestArm(t *testing.T) {
	for n := range 20 {
		for kinds := range 8 {
			d := made(t, 1)
			d.Arm(n)
			for i := range n {
				if kinds>>(i%3)&1 == 1 {
					good(t, "Sync", d.Sync())
				} else {
					good(t, "Write", d.Write(0, one(byte(i))))
				}
			}
			if d.Down() {
				t.Errorf("armed with %d, it is down behind these", n)
			}
			waits := d.Waiting()
			if kinds&1 == 1 {
				wrong(t, "Sync", d.Sync(), api.ErrDown)
			} else {
				wrong(t, "Write", d.Write(7, one(99)), api.ErrDown)
			}
			wait(t, d, waits...)
			isDown(t, d)
		}
	}
}

// TestArmZero: DV3, the example: armed with 0, the first write goes down; and the first sync does, where nothing waits too.
func TestArmZero(t *testing.T) {
	d := made(t, 1)
	d.Arm(0)
	wrong(t, "Write", d.Write(0, one(1)), api.ErrDown)
	isDown(t, d)
	d.Crash([]bool{true, true})
	reads(t, d, 0, noughts())
	d.Arm(0)
	wrong(t, "Sync", d.Sync(), api.ErrDown)
	isDown(t, d)
}

// TestArmBelow: DV3, below 0 it goes down at no step, be it armed ahead or not.
func TestArmBelow(t *testing.T) {
	for _, n := range []int{-1, -2, math.MinInt} {
		d := made(t, 1)
		d.Arm(2)
		good(t, "Write", d.Write(0, one(1)))
		d.Arm(n)
		for range 10 {
			good(t, "Write", d.Write(0, one(2)))
			good(t, "Sync", d.Sync())
		}
		if d.Down() {
			t.Errorf("armed with %d, it is down", n)
		}
	}
}

// TestArmAnew: DV3, armed anew it is the last number that counts, from there on.
func TestArmAnew(t *testing.T) {
	d := made(t, 1)
	d.Arm(1)
	good(t, "Sync", d.Sync())
	d.Arm(2)
	good(t, "Sync", d.Sync())
	good(t, "Sync", d.Sync())
	wrong(t, "Sync", d.Sync(), api.ErrDown)
	d.Crash(nil)
	d.Arm(math.MaxInt)
	d.Arm(0)
	wrong(t, "Sync", d.Sync(), api.ErrDown)
}

// TestArmDown: DV3, to be armed doesn't let it come back, and behind a crash it is not armed.
func TestArmDown(t *testing.T) {
	for _, n := range []int{-1, 0, 5} {
		d := made(t, 1)
		d.Arm(0)
		wrong(t, "Sync", d.Sync(), api.ErrDown)
		d.Arm(n)
		isDown(t, d)
		d.Crash(nil)
		for range 10 {
			good(t, "Sync", d.Sync())
		}
	}
	d := made(t, 1)
	d.Arm(1)
	d.Crash(nil)
	for range 10 {
		good(t, "Sync", d.Sync())
	}
}

// TestNoStep: DV1 to DV3, what reads, what answers an error, and what shows is no step.
func TestNoStep(t *testing.T) {
	d := made(t, 2)
	d.Arm(1)
	for range 5 {
		reads(t, d, 0, noughts())
		readsPage(t, d, 1, make([]byte, api.Page))
		wrong(t, "Write", d.Write(16, one(1)), api.ErrRange)
		wrong(t, "Write", d.Write(0, nil), api.ErrArg)
		wrong(t, "WritePage", d.WritePage(2, some(api.Page, 1)), api.ErrRange)
		wrong(t, "WritePage", d.WritePage(0, one(1)), api.ErrArg)
		good(t, "WritePage", d.WritePage(1, make([]byte, api.Page)))
		d.Copy()
		wait(t, d)
	}
	good(t, "Write", d.Write(0, one(1)))
	wrong(t, "Write", d.Write(16, one(1)), api.ErrRange)
	wrong(t, "Write", d.Write(0, nil), api.ErrArg)
	if d.Down() {
		t.Error("it is down")
	}
	wrong(t, "Sync", d.Sync(), api.ErrDown)
	isDown(t, d)
}

// crashed is a device whose first four sectors are written thrice: safe, then not, then not again; the fourth is noughts at last.
func crashed(t *testing.T) *device.Device {
	t.Helper()
	d := made(t, 2)
	for n := range 4 {
		good(t, "Write", d.Write(n, one(byte(n))))
	}
	good(t, "Sync", d.Sync())
	// Backwards, so that the order of the sectors is not the one of the writes.
	for n := 3; n >= 0; n-- {
		good(t, "Write", d.Write(n, one(byte(100+n))))
		good(t, "Write", d.Write(n, one(byte(200+n))))
	}
	good(t, "Write", d.Write(3, noughts()))
	good(t, "Write", d.Write(9, one(209)))
	wait(t, d, 0, 1, 2, 3, 9)
	return d
}

// TestCrash: DV3, for each choice of what is kept: what was written last, or what was safe last, of a device that is down, and of one that is not.
func TestCrash(t *testing.T) {
	safe := [][]byte{one(0), one(1), one(2), one(3), noughts()}
	last := [][]byte{one(200), one(201), one(202), noughts(), one(209)}
	for mask := range 32 {
		for size := range 8 {
			for _, down := range []bool{false, true} {
				d := crashed(t)
				if down {
					d.Arm(0)
					wrong(t, "Write", d.Write(1, one(77)), api.ErrDown)
				}
				keep := make([]bool, size)
				for i := range keep {
					keep[i] = mask>>i&1 == 1 || i > 4
				}
				was := slices.Clone(keep)
				d.Crash(keep)
				if !slices.Equal(keep, was) {
					t.Errorf("what was handed in is changed")
				}
				if d.Down() {
					t.Errorf("it is down behind a crash")
				}
				wait(t, d)
				for i, n := range []int{0, 1, 2, 3, 9} {
					want := safe[i]
					if i < size && keep[i] {
						want = last[i]
					}
					reads(t, d, n, want)
				}
				reads(t, d, 4, noughts())
			}
		}
	}
}

// TestCrashTwice: DV3 and DV4, what a crash left is safe: the next one leaves it, whatever is kept.
func TestCrashTwice(t *testing.T) {
	for _, keep := range [][]bool{nil, {true, true, true, true, true}, {false}} {
		d := crashed(t)
		d.Crash([]bool{true, false, true, true, true})
		for range 2 {
			d.Crash(keep)
			for n, want := range [][]byte{one(200), one(1), one(202), noughts()} {
				reads(t, d, n, want)
			}
			reads(t, d, 9, one(209))
		}
		good(t, "Write", d.Write(0, one(5)))
		d.Crash(nil)
		reads(t, d, 0, one(200))
	}
}

// TestSynced: DV4, what was synced is read behind any crash, till it is written anew; noughts too.
func TestSynced(t *testing.T) {
	for _, keep := range [][]bool{nil, {}, {true, true, true}, {false, true}} {
		d := made(t, 1)
		good(t, "Write", d.Write(0, one(1)))
		good(t, "Write", d.Write(1, one(2)))
		good(t, "Sync", d.Sync())
		good(t, "Write", d.Write(1, noughts()))
		good(t, "Sync", d.Sync())
		d.Crash(keep)
		reads(t, d, 0, one(1))
		reads(t, d, 1, noughts())
		d.Arm(1)
		good(t, "Write", d.Write(5, one(3)))
		wrong(t, "Sync", d.Sync(), api.ErrDown)
		d.Crash(keep)
		reads(t, d, 0, one(1))
		reads(t, d, 1, noughts())
	}
}

// TestSyncDown: DV1, a sync at which it goes down lets nothing be safe.
func TestSyncDown(t *testing.T) {
	d := made(t, 1)
	good(t, "Write", d.Write(6, one(1)))
	good(t, "Write", d.Write(2, one(2)))
	d.Arm(0)
	wrong(t, "Sync", d.Sync(), api.ErrDown)
	wait(t, d, 2, 6)
	d.Crash([]bool{false, true})
	reads(t, d, 2, noughts())
	reads(t, d, 6, one(1))
}

// TestWaiting: DV3, ascending by number, over the pages, each once; nothing, if nothing waits.
func TestWaiting(t *testing.T) {
	d := made(t, api.MaxPages)
	if got := d.Waiting(); got != nil {
		t.Errorf("Waiting: %v", got)
	}
	var want []int
	for i := range 1000 {
		n := i * 3001 % 8192
		good(t, "Write", d.Write(n, one(byte(i))))
		good(t, "Write", d.Write(n, noughts()))
		want = append(want, n)
	}
	slices.Sort(want)
	wait(t, d, want...)
	good(t, "Sync", d.Sync())
	wait(t, d)
}

// TestCopy: DV3, a copy has what is safe, what waits, and the arming, and goes on alone.
func TestCopy(t *testing.T) {
	d := crashed(t)
	d.Arm(1)
	c := d.Copy()
	if c.Pages() != 2 || c.Down() {
		t.Errorf("Copy: %d pages, down: %t", c.Pages(), c.Down())
	}
	good(t, "Write", d.Write(0, one(50)))
	wrong(t, "Sync", d.Sync(), api.ErrDown)
	wait(t, c, 0, 1, 2, 3, 9)
	reads(t, c, 0, one(200))
	good(t, "Write", c.Write(12, one(60)))
	wait(t, d, 0, 1, 2, 3, 9)
	wrong(t, "Write", c.Write(1, one(70)), api.ErrDown)

	e := c.Copy()
	isDown(t, e)
	wait(t, e, 0, 1, 2, 3, 9, 12)
	c.Crash([]bool{true, true, true, true, true, true})
	isDown(t, e)
	e.Crash(nil)
	d.Crash([]bool{true})
	for n, want := range [][]byte{one(200), one(201), one(202), noughts()} {
		reads(t, c, n, want)
		reads(t, e, n, one(byte(n)))
	}
	reads(t, c, 12, one(60))
	reads(t, e, 12, noughts())
	reads(t, d, 0, one(50))
	reads(t, d, 12, noughts())

	good(t, "Write", e.Write(0, one(80)))
	good(t, "Sync", e.Sync())
	reads(t, c, 0, one(200))
}

// TestCopySync: DV3, the copy of what is safe alone is of its own too.
func TestCopySync(t *testing.T) {
	d := made(t, 1)
	good(t, "Write", d.Write(0, one(1)))
	good(t, "Sync", d.Sync())
	c := d.Copy()
	for range 5 {
		good(t, "Write", c.Write(0, one(2)))
		good(t, "Write", c.Write(1, one(3)))
		good(t, "Sync", c.Sync())
	}
	reads(t, d, 0, one(1))
	reads(t, d, 1, noughts())
	wait(t, d)
}
