package sectors_test

import (
	"fmt"
	"math"
	"testing"

	"lethe/api"
	"lethe/sectors"
)

// withPending: a device and its model with that many pending writes, all of them unlike, over the sectors in turn.
func withPending(t *testing.T, count, n int) (*sectors.Device, *model) {
	t.Helper()
	image := someBytes(512 * n)
	d, m := loaded(t, image), newModel(image)
	for k := range count {
		b := someBytes(512)
		for o := range b {
			b[o] += byte(3*k + 5)
		}
		isOK(t, "Write", d.Write(k%n, b))
		m.write(k%n, b)
	}
	return d, m
}

// isLoss: a crash with this loss, by Crash, by a Flush and by the last Write, leaves what the model says.
func isLoss(t *testing.T, what string, count, n int, loss api.Loss) {
	t.Helper()
	d, m := withPending(t, count, n)
	isOK(t, what, d.Crash(loss))
	m.crash(loss)
	isModel(t, what+", Crash", d, m)

	d, m = withPending(t, count, n)
	isOK(t, what, d.Arm(1, loss))
	m.arm(1, loss)
	isCode(t, what+", Flush", d.Flush(), api.ErrDown)
	m.flush()
	isModel(t, what+", Flush", d, m)

	if count == 0 {
		return
	}
	d, m = withPending(t, count-1, n)
	isOK(t, what, d.Arm(1, loss))
	m.arm(1, loss)
	isCode(t, what+", Write", d.Write(0, full('z')), api.ErrDown)
	m.write(0, full('z'))
	isModel(t, what+", Write", d, m)
}

// P8.9: every subset of a few pending writes, of sectors that are all unlike and of some that are one.
func TestEveryKeep(t *testing.T) {
	for _, n := range []int{1, 2, 5} {
		for keep := range uint64(1 << 5) {
			isLoss(t, fmt.Sprintf("keep %b of %d sectors", keep, n), 5, n, api.Loss{Keep: []uint64{keep}, Torn: -1})
		}
	}
}

// P8.9: a Keep that is shorter than the pending writes, or none; bits and numbers beyond the last one.
func TestKeepOfOtherLengths(t *testing.T) {
	all := ^uint64(0)
	for _, count := range []int{0, 1, 2, 63, 64, 65, 127, 128, 129, 130, 200} {
		keeps := [][]uint64{nil, {}, {0}, {all}, {all << 1}, {1 << 63}, {0, 1}, {0, all}, {1, 0, 2}, {all, all}, {0, 0, 1}, {all, all, all, all},
			{0, 0, 0, 0, 0, 0, all, all}, {all << 63, 1}, {0xaaaaaaaaaaaaaaaa, 0x5555555555555555, 0x123456789abcdef0, 7}}
		for _, keep := range keeps {
			isLoss(t, fmt.Sprintf("keep %x of %d writes", keep, count), count, 3, api.Loss{Keep: keep, Torn: -1})
		}
	}
}

// P8.9: each bit of the Keep alone keeps just the pending write of its number.
func TestEachBitOfKeep(t *testing.T) {
	const count = 131
	for k := range count {
		keep := make([]uint64, 3)
		keep[k/64] = 1 << (k % 64)
		d, m := withPending(t, count, count)
		isOK(t, "Crash", d.Crash(api.Loss{Keep: keep, Torn: -1}))
		m.image = joined(m.image[:512*k], m.pending[k].Bytes, m.image[512*k+512:])
		isAs(t, fmt.Sprintf("bit %d", k), d, taken{image: m.image, count: count, calls: count, down: true})
	}
}

// P8.9: Torn below 0, at a kept write, at one that is not kept, at the last one, beyond it, above 64; at all kinds of offsets.
func TestTorn(t *testing.T) {
	torns := append(farNumbers(), -3, -1, 0, 1, 2, 3, 4, 5, 63, 64, 65, 66, 67, 127, 128)
	offsets := []int{math.MinInt, -513, -1, 0, 1, 2, 255, 256, 510, 511, 512, 513, 1024, math.MaxInt}
	for _, count := range []int{0, 4, 67} {
		for _, torn := range torns {
			for _, offset := range offsets {
				for _, keep := range [][]uint64{nil, {5, 1}, {0xfffffffffffffffa, 6}} {
					what := fmt.Sprintf("%d writes, torn %d at %d, keep %x", count, torn, offset, keep)
					isLoss(t, what, count, 3, api.Loss{Keep: keep, Torn: torn, Offset: offset})
				}
			}
		}
	}
}

// P8.9: a torn write at every offset, between an earlier and a later one of its sector; what lies behind the offset stays as it is by then.
func TestEveryOffset(t *testing.T) {
	image := someBytes(1024)
	a, b := full('a'), full('b')
	for offset := range 514 {
		n := min(offset, 512)
		loss := api.Loss{Torn: 1, Offset: offset}
		what := fmt.Sprintf("offset %d", offset)

		d := loaded(t, image)
		isOK(t, what, d.Write(1, a), d.Write(1, b), d.Crash(loss))
		isImage(t, what+", the first lost", d, image[:512], joined(b[:n], image[512+n:]))

		d = loaded(t, image)
		loss.Keep = []uint64{1}
		isOK(t, what, d.Write(1, a), d.Write(1, b), d.Crash(loss))
		isImage(t, what+", the first kept", d, image[:512], joined(b[:n], a[n:]))

		d = loaded(t, image)
		loss.Keep = []uint64{4}
		isOK(t, what, d.Write(1, full('c')), d.Write(1, b), d.Write(1, a), d.Crash(loss))
		isImage(t, what+", a later one kept", d, image[:512], a)
	}
}

// P8.8: armed with step 1, 2 and more, the changing call of that number crashes, be it a Write or a Flush, and none ahead of it.
func TestArm(t *testing.T) {
	for step := 1; step <= 70; step++ {
		for _, every := range []int{1, 2, 3, 100} { // each so-manieth call is a Flush
			what := fmt.Sprintf("step %d, a Flush at each %d", step, every)
			image := someBytes(1024)
			d, m := loaded(t, image), newModel(image)
			loss := api.Loss{Keep: []uint64{0b1011}, Torn: 2, Offset: 7}
			isOK(t, what, d.Write(0, full('p')), d.Arm(step, loss))
			m.write(0, full('p'))
			m.arm(step, loss)
			for k := 1; k <= step; k++ {
				got, want := api.OK, api.OK
				if k%every == 0 {
					got, want = d.Flush(), m.flush()
				} else {
					got, want = d.Write(k%2, full(byte(k))), m.write(k%2, full(byte(k)))
				}
				isCode(t, fmt.Sprintf("%s: call %d", what, k), got, want)
				if down := k == step; d.Down() != down || (got == api.ErrDown) != down {
					t.Fatalf("%s: call %d: error %d", what, k, got)
				}
			}
			isModel(t, what, d, m)
		}
	}
}

// P8.8, P8.1: a step below 0 is refused, and what was armed stays armed, with its loss and its count; a device that is down is named first.
func TestArmRefused(t *testing.T) {
	for _, step := range []int{-1, -2, -4096, math.MinInt} {
		d := newDevice(t, 1)
		isOK(t, "Arm", d.Arm(2, api.Loss{Keep: []uint64{1}}), d.Write(0, full('a')))
		before := take(d)
		isCode(t, "a step below 0", d.Arm(step, api.Loss{Keep: []uint64{2}}), api.ErrPlace)
		isAs(t, "a step below 0", d, before)
		isCode(t, "the second call", d.Write(0, full('b')), api.ErrDown)
		isImage(t, "the second call", d, full('a'))
		isCode(t, "down", d.Arm(step, api.Loss{}), api.ErrDown)
	}
	d := newDevice(t, 1)
	isCode(t, "a step below 0", d.Arm(-1, api.Loss{}), api.ErrPlace)
	isNotArmed(t, "refused", d)
}

// P8.8: Arm of a device that is down is refused at every step, and does not arm it.
func TestArmDown(t *testing.T) {
	for _, step := range []int{0, 1, 2, math.MaxInt} {
		d := downDevice(t, full('a'))
		before := take(d)
		isCode(t, "down", d.Arm(step, api.Loss{}), api.ErrDown)
		isAs(t, "down", d, before)
		isOK(t, "Up", d.Up())
		isNotArmed(t, "Arm was refused", d)
	}
}

// P8.8: a later Arm takes the place of an earlier one, with its own loss, and counts anew; step 0 ends it, and its loss is not looked at.
func TestArmedAnew(t *testing.T) {
	first, later := api.Loss{Keep: []uint64{0xff}, Torn: -1}, api.Loss{Torn: 1, Offset: 3}
	d := newDevice(t, 1)
	isOK(t, "armed", d.Arm(3, first), d.Write(0, full('a')), d.Flush(), d.Arm(3, later))
	isOK(t, "counted anew", d.Write(0, full('b')), d.Write(0, full('c')))
	isCode(t, "the third since", d.Flush(), api.ErrDown)
	isImage(t, "the later loss", d, joined(full('c')[:3], full('a')[3:]))

	d = newDevice(t, 1)
	isOK(t, "armed for sooner", d.Arm(5, first), d.Arm(1, later))
	isCode(t, "the first since", d.Flush(), api.ErrDown)

	d = newDevice(t, 1)
	isOK(t, "disarmed", d.Arm(1, first), d.Arm(0, later), d.Write(0, full('d')))
	isNotArmed(t, "disarmed", d)
	isImage(t, "disarmed", d, full('d'))

	d = newDevice(t, 1)
	isOK(t, "disarmed with a call to go", d.Arm(2, first), d.Flush(), d.Arm(0, api.Loss{Torn: -9}), d.Arm(0, first))
	isNotArmed(t, "disarmed twice", d)

	d = newDevice(t, 1)
	isOK(t, "armed behind being disarmed", d.Arm(2, first), d.Arm(0, first), d.Flush(), d.Arm(2, later), d.Flush())
	isCode(t, "the second since", d.Flush(), api.ErrDown)
}

// P8.8: the greatest steps are never reached, nor do they wrap round.
func TestGreatSteps(t *testing.T) {
	for _, step := range []int{1 << 31, 1 << 32, 1<<32 + 1, math.MaxInt - 1, math.MaxInt} {
		d := newDevice(t, 1)
		isOK(t, "calls ahead", d.Flush(), d.Write(0, full('a')), d.Arm(step, api.Loss{}))
		isNotArmed(t, fmt.Sprintf("step %d", step), d)
	}
}

// P8.8, P8.1: what is refused, and what only asks, does not count as a changing call.
func TestRefusedDoesNotCount(t *testing.T) {
	d := newDevice(t, 2)
	isOK(t, "Arm", d.Arm(2, api.Loss{Keep: []uint64{3}, Torn: -1}))
	idle := func() {
		t.Helper()
		calls := d.Calls()
		isCode(t, "Write", d.Write(2, full('a')), api.ErrSector)
		isCode(t, "Write", d.Write(-1, nil), api.ErrSector)
		isCode(t, "Write", d.Write(0, nil), api.ErrData)
		isCode(t, "Write", d.Write(1, make([]byte, 513)), api.ErrData)
		isCode(t, "Arm", d.Arm(-1, api.Loss{}), api.ErrPlace)
		isRefused(t, "Read", d, 2, api.ErrSector)
		for i := range 2 {
			if _, e := d.Read(i); e != api.OK {
				t.Errorf("Read: error %d", e)
			}
		}
		take(d)
		if d.Down() || d.Calls() != calls {
			t.Fatalf("down %t, %d calls, want %d", d.Down(), d.Calls(), calls)
		}
	}
	idle()
	isOK(t, "Write", d.Write(0, full('a')))
	idle()
	isCode(t, "the second one", d.Write(1, full('b')), api.ErrDown)
	isImage(t, "the second one", d, full('a'), full('b'))
	isCache(t, "the second one", d)
	if !d.Down() || d.Calls() != 2 {
		t.Errorf("down %t, %d calls", d.Down(), d.Calls())
	}
}

// P8.9: behind a crash the device is no longer armed, whichever call it came of; Crash is no changing call.
func TestCrashDisarms(t *testing.T) {
	d := newDevice(t, 1)
	isOK(t, "Crash of an armed one", d.Arm(2, api.Loss{}), d.Flush(), d.Crash(api.Loss{}))
	if d.Calls() != 1 {
		t.Errorf("%d calls, want 1", d.Calls())
	}
	isOK(t, "Up", d.Up())
	isNotArmed(t, "behind Crash", d)

	d = newDevice(t, 1)
	isOK(t, "Arm", d.Arm(1, api.Loss{}))
	isCode(t, "the armed call", d.Flush(), api.ErrDown)
	isOK(t, "Up", d.Up())
	isNotArmed(t, "behind the armed call", d)
}

// P8.9: Crash goes by its own loss, and not by the one that Arm was given.
func TestCrashOfAnArmedOne(t *testing.T) {
	d := newDevice(t, 1)
	isOK(t, "Crash", d.Arm(9, api.Loss{Keep: []uint64{1}}), d.Write(0, full('a')), d.Write(0, full('b')), d.Crash(api.Loss{Keep: []uint64{2}}))
	isImage(t, "Crash", d, full('b'))
}

// P8.4, P8.5 to P8.9: of a device that is down everything is refused with ErrDown, nothing changes, and it tells its image, no pending writes, and its calls.
func TestDown(t *testing.T) {
	d := loaded(t, someBytes(1024))
	isOK(t, "ahead", d.Write(0, full('a')), d.Flush(), d.Write(1, full('b')), d.Crash(api.Loss{Torn: 0, Offset: 9}))
	want := taken{image: joined(full('a'), full('b')[:9], someBytes(1024)[521:]), count: 2, calls: 3, down: true}
	isAs(t, "down", d, want)
	for range 3 {
		isCode(t, "Write", d.Write(0, full('c')), api.ErrDown)
		isCode(t, "Flush", d.Flush(), api.ErrDown)
		isCode(t, "Arm", d.Arm(1, api.Loss{}), api.ErrDown)
		isCode(t, "Arm", d.Arm(0, api.Loss{}), api.ErrDown)
		isCode(t, "Crash", d.Crash(api.Loss{Keep: []uint64{1}}), api.ErrDown)
		isRefused(t, "Read", d, 0, api.ErrDown)
		isRefused(t, "Read", d, 2, api.ErrDown)
		isAs(t, "down", d, want)
	}
	isOK(t, "Up", d.Up())
	want.down = false
	isAs(t, "up", d, want)
	isRead(t, "up", d, 0, full('a'))
	isRead(t, "up", d, 1, want.image[512:])
	isNotArmed(t, "up", d)
}

// P8.10: Up of a device that runs ends its being armed, and leaves its pending writes, its image and its calls.
func TestUpOfOneThatRuns(t *testing.T) {
	d := loaded(t, someBytes(1024))
	isOK(t, "ahead", d.Write(0, full('a')), d.Arm(2, api.Loss{}), d.Write(1, full('b')))
	before := take(d)
	isOK(t, "Up", d.Up(), d.Up())
	isAs(t, "Up", d, before)
	isRead(t, "Up", d, 0, full('a'))
	isRead(t, "Up", d, 1, full('b'))
	isNotArmed(t, "Up", d)
	isImage(t, "Up", d, full('a'), full('b'))

	d = newDevice(t, 1)
	before = take(d)
	isOK(t, "Up of a new one", d.Up())
	isAs(t, "Up of a new one", d, before)
}

// P8.10: crash behind crash: each Up lets it run again, and nothing of a former loss stays.
func TestUpAndDown(t *testing.T) {
	d := newDevice(t, 1)
	for k := range 100 {
		c := byte(k + 1)
		isOK(t, "Arm", d.Arm(2, api.Loss{Keep: []uint64{1}, Torn: -1}), d.Write(0, full(c)))
		isCode(t, "the second call", d.Write(0, full('z')), api.ErrDown)
		isAs(t, "down", d, taken{image: full(c), count: 1, calls: 2*k + 2, down: true})
		isOK(t, "Up", d.Up())
		isRead(t, "up", d, 0, full(c))
	}
}
