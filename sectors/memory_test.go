package sectors_test

import (
	"bytes"
	"fmt"
	"slices"
	"testing"

	"lethe/api"
	"lethe/sectors"
)

func spoil(b []byte) {
	b = whole(b)
	for i := range b {
		b[i] ^= 0xff
	}
}

// roomyKeep: the same numbers, with room behind them that keeps everything.
func roomyKeep(keep ...uint64) []uint64 {
	r := append(slices.Clone(keep), ^uint64(0), ^uint64(0))
	return r[:len(keep)]
}

// P8.1: Load neither changes the image, spare room too, nor keeps it.
func TestLoadedImageIsTheCallers(t *testing.T) {
	for _, n := range []int{1, 2, 3} {
		want := someBytes(512 * n)
		image := roomy(want)
		before := joined(whole(image))
		d := loaded(t, image)
		isOK(t, "calls", d.Write(n-1, full('x')), d.Flush(), d.Write(0, full('y')), d.Crash(api.Loss{Keep: []uint64{1}}), d.Up())
		if !bytes.Equal(whole(image), before) {
			t.Errorf("%d sectors: the image that was handed in, or what lies behind it, has changed", n)
		}
		d = loaded(t, image)
		spoil(image)
		isAs(t, "the caller's image is spoiled", d, taken{image: want, count: n})
	}
	image := roomy(someBytes(511))
	before := joined(whole(image))
	if _, e := sectors.Load(image); e != api.ErrImage || !bytes.Equal(whole(image), before) {
		t.Errorf("an image that is refused: error %d, or it has changed", e)
	}
}

// P8.1: Write neither changes the bytes, spare room too, nor keeps them, taken or refused.
func TestWrittenBytesAreTheCallers(t *testing.T) {
	for _, size := range []int{511, 512, 513} {
		d := newDevice(t, 2)
		b := roomy(someBytes(size))
		before := joined(whole(b))
		taken := d.Write(1, b) == api.OK
		if !bytes.Equal(whole(b), before) {
			t.Errorf("%d bytes: they, or what lies behind them, have changed", size)
		}
		spoil(b)
		if taken {
			isRead(t, "the caller's bytes are spoiled", d, 1, before[:512])
			isCache(t, "the caller's bytes are spoiled", d, write(1, before[:512]))
			isOK(t, "Flush", d.Flush())
			isImage(t, "the caller's bytes are spoiled", d, full(0), before[:512])
		}
		if taken != (size == 512) {
			t.Errorf("%d bytes: taken %t", size, taken)
		}
		after := joined(whole(b))
		isOK(t, "later calls", d.Write(1, full('x')), d.Flush(), d.Write(1, full('y')), d.Crash(api.Loss{Keep: []uint64{1}}))
		if !bytes.Equal(whole(b), after) {
			t.Errorf("%d bytes: a later call has changed them", size)
		}
	}
}

// P8.1: one list, written again and again with other bytes in it, is each time what it was then; two sectors of one array too.
func TestOneListWrittenAgain(t *testing.T) {
	d := newDevice(t, 3)
	b := make([]byte, 512)
	var want []api.Pending
	for k := range 9 {
		for o := range b {
			b[o] = byte(k + 1)
		}
		isOK(t, "Write", d.Write(k%3, b))
		want = append(want, write(k%3, full(byte(k+1))))
	}
	isCache(t, "one list", d, want...)

	array := someBytes(1024)
	d = newDevice(t, 2)
	isOK(t, "one array", d.Write(0, array[256:768]), d.Write(1, array[:512]), d.Flush())
	isImage(t, "one array", d, array[256:768], array[:512])
}

// P8.1: Arm neither changes the Keep, spare room too, nor keeps it; nor is what lies behind it looked at.
func TestKeepIsTheCallers(t *testing.T) {
	for _, spare := range []bool{false, true} {
		keep := []uint64{0b0101}
		if spare {
			keep = roomyKeep(keep...)
		}
		before := slices.Clone(whole(keep))
		d := newDevice(t, 66)
		isOK(t, "Arm", d.Arm(66, api.Loss{Keep: keep, Torn: -1}))
		if !slices.Equal(whole(keep), before) {
			t.Errorf("Arm has changed the Keep, or what lies behind it")
		}
		for j := range whole(keep) {
			whole(keep)[j] = 0xaaaaaaaaaaaaaaaa
		}
		after := slices.Clone(whole(keep))
		for i := range 65 {
			isOK(t, "Write", d.Write(i, full('x')))
		}
		isCode(t, "Write", d.Write(65, full('x')), api.ErrDown)
		if !slices.Equal(whole(keep), after) {
			t.Errorf("the crash has changed the Keep, or what lies behind it")
		}
		want := make([]byte, 66*512)
		copy(want, full('x'))
		copy(want[1024:], full('x'))
		isAs(t, "the caller's Keep is spoiled", d, taken{image: want, count: 66, calls: 66, down: true})
	}
}

// P8.1: Crash does not change the Keep, spare room too, and does not look at what lies behind it.
func TestCrashLeavesKeep(t *testing.T) {
	keep := roomyKeep(2)
	before := slices.Clone(whole(keep))
	d := newDevice(t, 70)
	for i := range 70 {
		isOK(t, "Write", d.Write(i, full('x')))
	}
	isOK(t, "Crash", d.Crash(api.Loss{Keep: keep, Torn: -1}))
	if !slices.Equal(whole(keep), before) {
		t.Errorf("Crash has changed the Keep, or what lies behind it")
	}
	isAs(t, "Crash", d, taken{image: joined(full(0), full('x'), make([]byte, 68*512)), count: 70, calls: 70, down: true})
}

// handedOut: all lists that a device hands out, each once.
func handedOut(t *testing.T, d *sectors.Device) [][]byte {
	t.Helper()
	lists := [][]byte{d.Image()}
	for _, w := range d.Cache() {
		lists = append(lists, w.Bytes)
	}
	for i := range d.Sectors() {
		if b, e := d.Read(i); e == api.OK {
			lists = append(lists, b)
		}
	}
	return lists
}

// P8.1: whatever is written into what was handed out, or appended to it, neither the device nor another list sees it, spare room too.
func TestHandedOutIsNew(t *testing.T) {
	d := loaded(t, roomy(someBytes(3*512)))
	isOK(t, "Write", d.Write(1, roomy(full('a'))), d.Write(2, full('b')), d.Write(1, full('c')))
	for _, state := range []string{"pending", "flushed", "down", "up"} {
		switch state {
		case "flushed":
			isOK(t, state, d.Flush())
		case "down":
			isOK(t, state, d.Write(0, full('d')), d.Crash(api.Loss{Torn: 0, Offset: 100}))
		case "up":
			isOK(t, state, d.Up())
		}
		before := take(d)
		lists := append(handedOut(t, d), handedOut(t, d)...)
		var copies [][]byte
		for _, list := range lists {
			copies = append(copies, joined(whole(list)))
		}
		for k, list := range lists {
			spoil(list)
			_ = append(list, 1, 2, 3)
			for other := range lists {
				if other > k && !bytes.Equal(whole(lists[other]), copies[other]) {
					t.Fatalf("%s: list %d sees what is written into list %d", state, other, k)
				}
			}
			isAs(t, fmt.Sprintf("%s: list %d is spoiled", state, k), d, before)
		}
	}
}

// P8.1: the list of pending writes itself is new, and stays as it was handed out.
func TestCacheIsNew(t *testing.T) {
	d := newDevice(t, 2)
	isOK(t, "Write", d.Write(0, full('a')), d.Write(1, full('b')), d.Write(0, full('c')))
	want := []api.Pending{write(0, full('a')), write(1, full('b')), write(0, full('c'))}
	first, second := d.Cache(), d.Cache()
	for k := range whole(first) {
		whole(first)[k] = api.Pending{Sector: 99}
	}
	_ = append(first, write(77, nil))
	isCache(t, "the first list is spoiled", d, want...)
	isOK(t, "Write", d.Write(1, full('d')), d.Flush(), d.Write(1, full('e')))
	if len(second) != 3 || second[0].Sector != 0 || second[1].Sector != 1 || !bytes.Equal(second[2].Bytes, full('c')) {
		t.Errorf("a list that was handed out has changed")
	}
	isOK(t, "Flush", d.Flush())
	isImage(t, "flushed", d, full('c'), full('e'))
}

// P8.1: what was handed out stays as it was, whatever the device goes through then.
func TestHandedOutStays(t *testing.T) {
	d := newDevice(t, 1)
	isOK(t, "Write", d.Write(0, full('a')), d.Flush(), d.Write(0, full('b')))
	image, cache := d.Image(), d.Cache()
	read, _ := d.Read(0)
	isOK(t, "calls", d.Write(0, full('c')), d.Flush(), d.Write(0, full('d')), d.Crash(api.Loss{Torn: 0, Offset: 9}), d.Up())
	if !bytes.Equal(image, full('a')) || !bytes.Equal(read, full('b')) || len(cache) != 1 || !bytes.Equal(cache[0].Bytes, full('b')) {
		t.Errorf("an answer has changed behind later calls")
	}
}

// P8.1: devices know nothing of one another, though they were made of the same bytes and written with the same.
func TestDevicesApart(t *testing.T) {
	image, b := someBytes(1024), full('b')
	one, two := loaded(t, image), loaded(t, image)
	isOK(t, "both", one.Write(0, b), two.Write(0, b))
	before := take(two)
	isOK(t, "one", one.Write(1, full('c')), one.Flush(), one.Arm(1, api.Loss{}))
	isCode(t, "one", one.Flush(), api.ErrDown)
	isAs(t, "two", two, before)
	isOK(t, "two", two.Flush())
	isImage(t, "two", two, b, image[512:])
	isNotArmed(t, "two", two)
	isRefused(t, "one", one, 0, api.ErrDown)
	three := newDevice(t, 2)
	isAs(t, "three", three, taken{image: make([]byte, 1024), count: 2})
}
