package sectors

import "lethe/api"

// wordBits: how many pending writes one number of a loss's Keep speaks of.
const wordBits = 64

// Arm: the disk gives up at its changing call (Write, Flush) number step from now on; 0: no more.
func (d *Device) Arm(step int, loss api.Loss) api.Errno {
	if d.down {
		return api.ErrDown
	}
	if step < 0 {
		return api.ErrPlace
	}
	d.disarm()
	if step == 0 {
		return api.OK
	}
	d.left = step
	// The list is the caller's, who may write into it ahead of the crash.
	d.loss = api.Loss{Keep: make([]uint64, len(loss.Keep)), Torn: loss.Torn, Offset: loss.Offset}
	copy(d.loss.Keep, loss.Keep)
	return api.OK
}

func (d *Device) disarm() {
	d.left = 0
	d.loss = api.Loss{}
}

// changed: counts a changing call; ErrDown: it is the one that crashes, and the crash is done.
// It counts down and not up, so that no step is too great for the count.
func (d *Device) changed() api.Errno {
	d.calls++
	if d.left == 0 {
		return api.OK
	}
	d.left--
	if d.left > 0 {
		return api.OK
	}
	d.giveUp(d.loss)
	return api.ErrDown
}

// Crash: it gives up now.
func (d *Device) Crash(loss api.Loss) api.Errno {
	if d.down {
		return api.ErrDown
	}
	d.giveUp(loss)
	return api.OK
}

func (d *Device) giveUp(loss api.Loss) {
	for k, w := range d.pending {
		d.settle(w, surviving(loss, k))
	}
	d.dropPending()
	d.disarm()
	d.down = true
}

// surviving: how many of its first bytes a loss leaves of pending write number k.
func surviving(loss api.Loss, k int) int {
	if kept(loss.Keep, k) {
		return api.SectorSize
	}
	if k == loss.Torn {
		return min(max(loss.Offset, 0), api.SectorSize)
	}
	return 0
}

func kept(keep []uint64, k int) bool {
	word := k / wordBits
	return word < len(keep) && keep[word]>>(k%wordBits)&1 == 1
}

// Down: has it given up?
func (d *Device) Down() bool { return d.down }

// Up: it runs again.
func (d *Device) Up() api.Errno {
	d.disarm()
	d.down = false
	return api.OK
}
