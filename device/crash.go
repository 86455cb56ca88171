package device

import (
	"maps"
	"slices"

	"warren/api"
)

// Arm lets the device go down behind so many writes and syncs.
func (d *Device) Arm(n int) {
	if d == nil {
		return
	}
	d.armed = n >= 0
	d.left = n
}

// Crash lets it come back; of the sectors that were not safe those are kept for which keep has true, in their order.
func (d *Device) Crash(keep []bool) {
	if d == nil {
		return
	}
	for i, n := range d.Waiting() {
		if i < len(keep) && keep[i] {
			p := placed(n)
			d.lay(p, d.waits[p])
		}
	}
	clear(d.waits)
	d.down = false
	d.armed = false
}

// Down tells whether it is.
func (d *Device) Down() bool { return d == nil || d.down }

// Waiting are the sectors that are not safe, ascending.
func (d *Device) Waiting() []int {
	if d == nil {
		return nil
	}
	var l []int
	for p := range d.waits {
		l = append(l, p.page*api.Parts+p.part)
	}
	slices.Sort(l)
	return l
}

// Copy is a device of its own, as it is.
func (d *Device) Copy() *Device {
	if d == nil {
		return nil
	}
	c := *d
	c.safe = maps.Clone(d.safe)
	c.waits = maps.Clone(d.waits)
	return &c
}
