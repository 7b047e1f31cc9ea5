package sectors_test

import (
	"fmt"
	"testing"

	"lethe/api"
	"lethe/sectors"
)

// P8.1 to P8.10: the chapter's worked examples, line by line, with the image and the pending writes behind each.
func TestWorkedExamples(t *testing.T) {
	a, b, c, zero := full('a'), full('b'), full('c'), full(0)
	d := newDevice(t, 3)

	isOK(t, "three writes", d.Write(1, a), d.Write(2, b), d.Write(1, c))
	isImage(t, "three writes", d, zero, zero, zero)
	isCache(t, "three writes", d, write(1, a), write(2, b), write(1, c))

	isRead(t, "the last pending one", d, 1, c)
	isRead(t, "the one pending one", d, 2, b)
	isRead(t, "none pending", d, 0, zero)
	before := take(d)
	isRefused(t, "one behind the last", d, 3, api.ErrSector)
	isRefused(t, "below 0", d, -1, api.ErrSector)
	isCode(t, "Write(3, 511 bytes)", d.Write(3, a[:511]), api.ErrSector)
	isCode(t, "Write(0, 511 bytes)", d.Write(0, a[:511]), api.ErrData)
	isAs(t, "refused", d, before)

	isOK(t, "Crash", d.Crash(api.Loss{Keep: []uint64{3}, Torn: -1}))
	isImage(t, "the first two are kept", d, zero, a, b)
	isCache(t, "the first two are kept", d)

	before = take(d)
	isRefused(t, "down", d, 0, api.ErrDown)
	isCode(t, "Flush, down", d.Flush(), api.ErrDown)
	isCode(t, "Write, down", d.Write(9, nil), api.ErrDown)
	isCode(t, "Arm, down", d.Arm(-1, api.Loss{}), api.ErrDown)
	isCode(t, "Crash, down", d.Crash(api.Loss{}), api.ErrDown)
	isAs(t, "refused, down", d, before)
	isOK(t, "Up", d.Up())
	isImage(t, "Up", d, zero, a, b)
	isCache(t, "Up", d)

	isOK(t, "Write, Arm", d.Write(0, c), d.Arm(2, api.Loss{Torn: 1, Offset: 2}))
	isImage(t, "armed", d, zero, a, b)
	isCache(t, "armed", d, write(0, c))
	isOK(t, "the first changing call since", d.Write(2, a))
	isImage(t, "the first changing call since", d, zero, a, b)
	isCache(t, "the first changing call since", d, write(0, c), write(2, a))
	isCode(t, "the Flush that crashes", d.Flush(), api.ErrDown)
	two := joined(a[:2], b[2:])
	isImage(t, "the Flush that crashes", d, zero, a, two)
	isCache(t, "the Flush that crashes", d)

	isOK(t, "Up, Arm", d.Up(), d.Arm(1, api.Loss{Torn: 0, Offset: 511}))
	isCode(t, "a Write that crashes", d.Write(0, b), api.ErrDown)
	isImage(t, "a Write that crashes", d, joined(b[:511], zero[:1]), a, two)
	isCache(t, "a Write that crashes", d)

	isOK(t, "Up, two writes, Crash", d.Up(), d.Write(0, a), d.Write(0, c), d.Crash(api.Loss{Keep: []uint64{1}, Torn: 1, Offset: 1}))
	isImage(t, "one behind the other", d, joined(c[:1], a[1:]), a, two)
	isCache(t, "one behind the other", d)

	isOK(t, "Up, Arm", d.Up(), d.Arm(1, api.Loss{Keep: []uint64{1}, Torn: 0, Offset: 5}))
	isCode(t, "a kept Write that crashes", d.Write(0, b), api.ErrDown)
	isImage(t, "kept: not torn", d, b, a, two)
	isCache(t, "kept: not torn", d)
	if d.Calls() != 10 {
		t.Errorf("Calls: %d, want 10", d.Calls())
	}
}

// The errors' numbers are those that the chapter lists.
func TestErrorNumbers(t *testing.T) {
	_, place := sectors.New(0)
	_, image := sectors.Load(nil)
	d := newDevice(t, 1)
	_, sector := d.Read(1)
	data := d.Write(0, nil)
	isOK(t, "Crash", d.Crash(api.Loss{}))
	down := d.Flush()
	for i, pair := range [][2]int{{int(place), 4}, {int(down), 80}, {int(sector), 81}, {int(data), 82}, {int(image), 83}} {
		if pair[0] != pair[1] {
			t.Errorf("error %d of the list is %d, want %d", i, pair[0], pair[1])
		}
	}
}

// P8.2: New at its bounds, and far from them.
func TestNew(t *testing.T) {
	for _, n := range append(farNumbers(), -1, 0, 4097, 4096*512, 1<<31) {
		if d, e := sectors.New(n); d != nil || e != api.ErrPlace {
			t.Errorf("New(%d): error %d, a device: %t", n, e, d != nil)
		}
	}
	for _, n := range []int{1, 2, 3, 63, 64, 65, 4095, 4096} {
		d := newDevice(t, n)
		isModel(t, fmt.Sprintf("New(%d)", n), d, newModel(make([]byte, 512*n)))
		isNotArmed(t, fmt.Sprintf("New(%d)", n), d)
	}
}

// P8.3: Load at its bounds, and beside them.
func TestLoad(t *testing.T) {
	isNone := func(image []byte) {
		t.Helper()
		if d, e := sectors.Load(image); d != nil || e != api.ErrImage {
			t.Errorf("Load of %d bytes: error %d, a device: %t", len(image), e, d != nil)
		}
	}
	isNone(nil)
	for _, n := range []int{0, 1, 2, 511, 513, 768, 1023, 1025, 4096*512 - 1, 4096*512 + 1, 4096*512 + 511, 4097 * 512, 8192 * 512} {
		isNone(someBytes(n))
		isNone(roomy(someBytes(n)))
	}
	for _, n := range []int{1, 2, 3, 64, 65, 4095, 4096} {
		image := someBytes(512 * n)
		for _, given := range [][]byte{image, roomy(image)} {
			d := loaded(t, given)
			isModel(t, fmt.Sprintf("Load of %d sectors", n), d, newModel(image))
			isNotArmed(t, fmt.Sprintf("Load of %d sectors", n), d)
		}
	}
}

// isNotArmed: many changing calls, none of which crashes.
func isNotArmed(t *testing.T, what string, d *sectors.Device) {
	t.Helper()
	for k := range 70 {
		if e := d.Flush(); e != api.OK {
			t.Fatalf("%s: Flush %d: error %d", what, k, e)
		}
	}
}

// P8.5: Read of the sectors at both ends and beside them, of a device that runs, with and without pending writes, and of one that is down.
func TestRead(t *testing.T) {
	for _, n := range []int{1, 2, 5, 4096} {
		image := someBytes(512 * n)
		fresh, written := loaded(t, image), loaded(t, image)
		last := n - 1
		isOK(t, "writes", written.Write(0, full('x')), written.Write(last, full('y')))
		isRead(t, "the image's", fresh, 0, image[:512])
		isRead(t, "the image's", fresh, last, image[512*last:])
		isRead(t, "the written one", written, last, full('y'))
		if n > 1 {
			isRead(t, "the written one", written, 0, full('x'))
		}
		if n > 2 {
			isRead(t, "beside the written one", written, 1, image[512:1024])
			isRead(t, "beside the written one", written, last-1, image[512*(last-1):512*last])
		}
		down := downDevice(t, image)
		for _, i := range append(farNumbers(), -1, n, n+1, 512*n, 4096) {
			isRefused(t, "no such sector", fresh, i, api.ErrSector)
			isRefused(t, "no such sector", written, i, api.ErrSector)
			isRefused(t, "down", down, i, api.ErrDown)
		}
		isRefused(t, "down", down, 0, api.ErrDown)
		isRefused(t, "down", down, last, api.ErrDown)
	}
}

// P8.6, P8.1: Write of the sectors at both ends and beside them, of too few and too many bytes, of a device that runs and of one that is down: the first error named is told, and nothing has changed.
func TestWriteRefused(t *testing.T) {
	for _, n := range []int{1, 3, 4096} {
		image := someBytes(512 * n)
		d, down := loaded(t, image), downDevice(t, image)
		isOK(t, "Write", d.Write(0, full('x')))
		before, beforeDown := take(d), take(down)
		for _, size := range []int{0, 1, 511, 512, 513, 1024} {
			what := fmt.Sprintf("%d sectors, %d bytes", n, size)
			for _, i := range append(farNumbers(), -1, n, n+1, 512*n) {
				isCode(t, what, d.Write(i, someBytes(size)), api.ErrSector)
				isCode(t, what, down.Write(i, someBytes(size)), api.ErrDown)
			}
			for _, i := range []int{0, n - 1} {
				isCode(t, what, down.Write(i, someBytes(size)), api.ErrDown)
				if size != 512 {
					isCode(t, what, d.Write(i, roomy(someBytes(size))), api.ErrData)
				}
			}
		}
		isCode(t, "no bytes", d.Write(0, nil), api.ErrData)
		isAs(t, "refused", d, before)
		isAs(t, "refused, down", down, beforeDown)
	}
}

// P8.6, P8.4: each write is a pending one more, in their order, two of one sector too; nothing is durable.
func TestWrite(t *testing.T) {
	image := someBytes(3 * 512)
	d, m := loaded(t, image), newModel(image)
	for k, i := range []int{0, 2, 0, 0, 1, 2, 2, 0} {
		b := roomy(full(byte('a' + k)))
		isOK(t, "Write", d.Write(i, b))
		m.write(i, b)
		isModel(t, fmt.Sprintf("write %d", k), d, m)
	}
	same := full('a') // the very bytes that are read already are a pending write as well
	isOK(t, "Write", d.Write(0, same), d.Write(0, same))
	m.write(0, same)
	m.write(0, same)
	isModel(t, "the same twice", d, m)
	isOK(t, "Flush", d.Flush())
	m.flush()
	isModel(t, "flushed", d, m)
}

// P8.7: Flush lays all pending writes into the image, in their order; without any it changes nothing but Calls.
func TestFlush(t *testing.T) {
	image := someBytes(4 * 512)
	d := loaded(t, image)
	isOK(t, "Flush of none", d.Flush(), d.Flush())
	isAs(t, "Flush of none", d, taken{image: image, count: 4, calls: 2})
	isOK(t, "writes", d.Write(3, full('a')), d.Write(1, full('b')), d.Write(3, full('c')), d.Flush())
	want := joined(image[:512], full('b'), image[1024:1536], full('c'))
	isAs(t, "Flush", d, taken{image: want, count: 4, calls: 6})
	for i := range 4 {
		isRead(t, "flushed", d, i, want[512*i:512*i+512])
	}
	isOK(t, "once more", d.Write(1, full('d')), d.Flush(), d.Flush())
	want = joined(image[:512], full('d'), image[1024:1536], full('c'))
	isAs(t, "once more", d, taken{image: want, count: 4, calls: 9})
}

// P8.7: thousands of pending writes, all over the greatest disk.
func TestFlushOfMany(t *testing.T) {
	d := newDevice(t, api.MaxSectors)
	last := make([][]byte, api.MaxSectors)
	for k := range 10000 {
		i := k * 1237 % api.MaxSectors
		last[i] = joined(someBytes(510), []byte{byte(k), byte(k >> 8)})
		if e := d.Write(i, last[i]); e != api.OK {
			t.Fatalf("Write %d: error %d", k, e)
		}
	}
	if n := len(d.Cache()); n != 10000 {
		t.Errorf("%d pending writes", n)
	}
	isRead(t, "the newest", d, 1237, last[1237])
	isOK(t, "Flush", d.Flush())
	isAs(t, "Flush", d, taken{image: joined(last...), count: api.MaxSectors, calls: 10001})
}
