package device_test

import (
	"bytes"
	"errors"
	"slices"
	"testing"

	"warren/api"
	"warren/device"
)

// plain is a device told from the words alone: lists of all sectors.
type plain struct {
	last, safe [][]byte
	waits      []bool
	left       int // below 0: not armed
	down       bool
}

func newPlain(pages int) *plain {
	p := &plain{left: -1, waits: make([]bool, 8*pages)}
	for range 8 * pages {
		p.last = append(p.last, noughts())
		p.safe = append(p.safe, noughts())
	}
	return p
}

// step tells whether a step is done.
func (p *plain) step() bool {
	if p.down {
		return false
	}
	p.down = p.left == 0
	if p.left > 0 {
		p.left--
	}
	return !p.down
}

func (p *plain) write(n int, b []byte) api.Errno {
	switch {
	case p.down:
		return api.ErrDown
	case n < 0 || n >= len(p.last):
		return api.ErrRange
	case len(b) != 64:
		return api.ErrArg
	case !p.step():
		return api.ErrDown
	}
	p.last[n], p.waits[n] = slices.Clone(b), true
	return 0
}

func (p *plain) writePage(n int, b []byte) api.Errno {
	switch {
	case p.down:
		return api.ErrDown
	case n < 0 || n >= len(p.last)/8:
		return api.ErrRange
	case len(b) != 512:
		return api.ErrArg
	}
	for i := range 8 {
		s := b[64*i : 64*i+64]
		if bytes.Equal(s, p.last[8*n+i]) {
			continue
		}
		if no := p.write(8*n+i, s); no != 0 {
			return no
		}
	}
	return 0
}

func (p *plain) sync() api.Errno {
	if !p.step() {
		return api.ErrDown
	}
	for n := range p.last {
		p.safe[n], p.waits[n] = p.last[n], false
	}
	return 0
}

func (p *plain) crash(keep []bool) {
	i := 0
	for n := range p.last {
		if p.waits[n] && (i >= len(keep) || !keep[i]) {
			p.last[n] = p.safe[n]
		}
		if p.waits[n] {
			i++
		}
		p.safe[n], p.waits[n] = p.last[n], false
	}
	p.down, p.left = false, -1
}

// alike fails, unless the device is as the plain one.
func (p *plain) alike(t *testing.T, d *device.Device) {
	t.Helper()
	var want []int
	for n, w := range p.waits {
		if w {
			want = append(want, n)
		}
	}
	wait(t, d, want...)
	if d.Down() != p.down {
		t.Fatalf("down: %t, not %t", d.Down(), p.down)
	}
	for n := range p.last {
		if p.down {
			_, err := d.Read(n)
			wrong(t, "Read", err, api.ErrDown)
			continue
		}
		reads(t, d, n, p.last[n])
	}
	for n := range len(p.last) / 8 {
		if !p.down {
			readsPage(t, d, n, slices.Concat(p.last[8*n:8*n+8]...))
		}
	}
}

// chance is a row of numbers that hangs on its seed alone.
type chance uint32

func (c *chance) below(n int) int {
	*c = *c*1664525 + 1013904223
	return int(*c>>16) % n
}

// sector is one of a few, so that one is often written as it was; noughts too; now and then it has another length.
func (c *chance) sector() []byte {
	switch c.below(20) {
	case 0:
		return some(63, 1)
	case 1, 2, 3, 4:
		return noughts()
	}
	return one(byte(c.below(4)))
}

func (c *chance) page() []byte {
	var b []byte
	for range 8 {
		b = append(b, c.sector()...)
	}
	return b
}

func (c *chance) bits() []bool {
	l := make([]bool, c.below(12))
	for i := range l {
		l[i] = c.below(2) == 1
	}
	return l
}

// TestWalk: DV1 to DV4, devices held against plain ones through many steps; a copy goes on in place of the device now and then.
func TestWalk(t *testing.T) {
	for seed := range 60 {
		c := chance(seed)
		pages := 1 + c.below(3)
		d, p := made(t, pages), newPlain(pages)
		for range 300 {
			var got error
			var want api.Errno
			switch c.below(12) {
			case 0, 1, 2, 3:
				n, b := c.below(8*pages+2)-1, c.sector()
				got, want = d.Write(n, b), p.write(n, b)
			case 4, 5, 6:
				n, b := c.below(pages+2)-1, c.page()
				got, want = d.WritePage(n, b), p.writePage(n, b)
			case 7, 8:
				got, want = d.Sync(), p.sync()
			case 9:
				n := c.below(30) - 2
				d.Arm(n)
				p.left = max(n, -1)
			case 10:
				keep := c.bits()
				d.Crash(keep)
				p.crash(keep)
			case 11:
				left := d
				d = d.Copy()
				// What is done to the one that is left is not to be seen any more.
				left.Crash(c.bits())
				left.WritePage(0, some(512, 9))
				left.Sync()
			}
			var no api.Errno
			if errors.As(got, &no); no != want || (got == nil) != (want == 0) {
				t.Fatalf("seed %d: %v, not %d", seed, got, int(want))
			}
			p.alike(t, d)
			if t.Failed() {
				t.Fatalf("seed %d", seed)
			}
		}
	}
}
