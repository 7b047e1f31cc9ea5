package wal_test

import (
	"bytes"
	"errors"
	"math"
	"math/rand"
	"testing"

	"lethe/api"
	"lethe/sectors"
	"lethe/wal"
)

func joined(parts ...[]byte) []byte { return bytes.Join(parts, nil) }

// full: a page of one letter.
func full(c byte) []byte { return bytes.Repeat([]byte{c}, 1024) }

func put(n int, b []byte) api.PageWrite { return api.PageWrite{Number: n, Bytes: b} }

// drawn: n bytes, none of them zero, so that each write of them can be told from zeros.
func drawn(r *rand.Rand, n int) []byte {
	b := make([]byte, n)
	for i := range b {
		b[i] = byte(1 + r.Intn(255))
	}
	return b
}

// roomy: the same bytes, with room behind them that is not zero.
func roomy(b []byte) []byte {
	r := append(joined(b), bytes.Repeat([]byte{0x5a}, 1100)...)
	return r[:len(b)]
}

// whole: a list with all its room.
func whole[T any](list []T) []T { return list[:cap(list)] }

// farNumbers: numbers whose neighbours and products wrap round.
func farNumbers() []int {
	return []int{math.MinInt, math.MinInt + 1, -1 << 62, -1 << 32, -256, -250, -2, -1, 1 << 32, 1 << 61, 1 << 62, 1<<62 + 1, math.MaxInt - 1, math.MaxInt}
}

// zeroDisk: a disk of n sectors.
func zeroDisk(t *testing.T, n int) *sectors.Device {
	t.Helper()
	d, e := sectors.New(n)
	if e != api.OK {
		t.Fatalf("New(%d): error %d", n, e)
	}
	return d
}

func loaded(t *testing.T, image []byte) *sectors.Device {
	t.Helper()
	d, e := sectors.Load(image)
	if e != api.OK {
		t.Fatalf("Load of %d bytes: error %d", len(image), e)
	}
	return d
}

// downDisk: one of n sectors that has given up.
func downDisk(t *testing.T, n int) *sectors.Device {
	t.Helper()
	d := zeroDisk(t, n)
	isOK(t, "Crash", d.Crash(api.Loss{}))
	return d
}

// sector: one of zeros, but for these bytes at these places.
func sector(bytesAt map[int]byte) []byte {
	b := make([]byte, 512)
	for i, c := range bytesAt {
		b[i] = c
	}
	return b
}

// someHomes: an image of that many sectors with a clean log, and homes (and what lies beyond them) that are not zero.
func someHomes(r *rand.Rand, n int) []byte {
	log := 512 * (2*wordsRoom(n) + 1)
	return joined(make([]byte, log), drawn(r, 512*n-log))
}

func opened(t *testing.T, d *sectors.Device, want bool) *wal.Log {
	t.Helper()
	l, again, err := wal.Open(d)
	if err != nil || l == nil || again != want {
		t.Fatalf("Open: %v, again %t; want again %t", err, again, want)
	}
	return l
}

func isOK(t *testing.T, what string, codes ...api.Errno) {
	t.Helper()
	for i, e := range codes {
		if e != api.OK {
			t.Errorf("%s: call %d: error %d", what, i, e)
		}
	}
}

// isFault: err is a Fault of this call, at this place, with this number right inside; of OK: nil.
func isFault(t *testing.T, what string, err error, call string, at int, code api.Errno) {
	t.Helper()
	if code == api.OK {
		if err != nil {
			t.Errorf("%s: %v, want nil", what, err)
		}
		return
	}
	f, ok := err.(*api.Fault)
	if !ok || f == nil {
		t.Errorf("%s: %v is no Fault, want %s at %d: %d", what, err, call, at, code)
		return
	}
	e, ok := f.Err.(api.Errno)
	if f.Call != call || f.At != at || !ok || e != code || !errors.Is(err, code) || api.Code(err) != code {
		t.Errorf("%s: %v, want %s at %d: %d", what, err, call, at, code)
	}
}

// isNotOpened: Open answers this error, and nothing beside it.
func isNotOpened(t *testing.T, what string, d *sectors.Device, code api.Errno) {
	t.Helper()
	l, again, err := wal.Open(d)
	isFault(t, what+": Open", err, "Open", 0, code)
	if l != nil || again {
		t.Errorf("%s: Open: a log (%t) or again (%t) beside an error", what, l != nil, again)
	}
}

func isRead(t *testing.T, what string, l *wal.Log, n int, want []byte) {
	t.Helper()
	if b, err := l.Read(n); err != nil || !bytes.Equal(b, want) {
		t.Errorf("%s: Read(%d): %v, %d bytes that begin with %x", what, n, err, len(b), b[:min(4, len(b))])
	}
}

func isNotRead(t *testing.T, what string, l *wal.Log, n, at int, code api.Errno) {
	t.Helper()
	b, err := l.Read(n)
	isFault(t, what+": Read", err, "Read", at, code)
	if len(b) != 0 {
		t.Errorf("%s: Read(%d): %d bytes beside an error", what, n, len(b))
	}
}

// taken: what a disk tells of itself, as a copy.
type taken struct {
	image []byte
	cache []api.Pending
	calls int
	down  bool
}

func take(d *sectors.Device) taken {
	return taken{image: d.Image(), cache: d.Cache(), calls: d.Calls(), down: d.Down()}
}

func isAs(t *testing.T, what string, d *sectors.Device, want taken) {
	t.Helper()
	got := take(d)
	if got.calls != want.calls || got.down != want.down {
		t.Errorf("%s: %d changing calls, down %t; want %d, %t", what, got.calls, got.down, want.calls, want.down)
	}
	for i := 0; i < len(want.image); i += 512 {
		if !bytes.Equal(got.image[i:i+512], want.image[i:i+512]) {
			t.Errorf("%s: sector %d of the image is %x.., want %x..", what, i/512, got.image[i:i+4], want.image[i:i+4])
		}
	}
	if len(got.cache) != len(want.cache) {
		t.Errorf("%s: %d pending writes, want %d", what, len(got.cache), len(want.cache))
		return
	}
	for k, w := range want.cache {
		if got.cache[k].Sector != w.Sector || !bytes.Equal(got.cache[k].Bytes, w.Bytes) {
			t.Errorf("%s: pending write %d is another one", what, k)
		}
	}
}

// isClean: P9.9: an empty cache, and a log of zeros.
func isClean(t *testing.T, what string, d *sectors.Device) {
	t.Helper()
	log := d.Image()[:512*(2*wordsRoom(d.Sectors())+1)]
	if n := len(d.Cache()); n != 0 || !bytes.Equal(log, make([]byte, len(log))) {
		t.Errorf("%s: %d pending writes, or a log that is not all zeros", what, n)
	}
}

// homes: what stands in the image between the log and what lies beyond the homes.
func homes(d *sectors.Device) []byte {
	p := wordsRoom(d.Sectors())
	return d.Image()[512*(2*p+1) : 512*(4*p+1)]
}
