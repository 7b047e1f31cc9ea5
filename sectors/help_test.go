package sectors_test

import (
	"bytes"
	"math"
	"math/rand"
	"testing"

	"lethe/api"
	"lethe/sectors"
)

// full: a sector of one letter.
func full(c byte) []byte { return bytes.Repeat([]byte{c}, 512) }

func joined(parts ...[]byte) []byte { return bytes.Join(parts, nil) }

// someBytes: n bytes that differ from place to place, and from sector to sector.
func someBytes(n int) []byte {
	b := make([]byte, n)
	for i := range b {
		b[i] = byte(i + i/512*7 + 1)
	}
	return b
}

// roomy: the same bytes, with room behind them that is not zero.
func roomy(b []byte) []byte {
	r := append(joined(b), bytes.Repeat([]byte{0x5a}, 600)...)
	return r[:len(b)]
}

// whole: a list with all its room.
func whole[T any](list []T) []T { return list[:cap(list)] }

// farNumbers: numbers whose neighbours, products by 512 and sums wrap round.
func farNumbers() []int {
	return []int{math.MinInt, math.MinInt + 1, -1 << 55, -1 << 32, -4096, -64, -2, 1 << 23, 1 << 32, 1 << 55, 1<<55 + 1, math.MaxInt - 1, math.MaxInt}
}

func newDevice(t *testing.T, n int) *sectors.Device {
	t.Helper()
	d, e := sectors.New(n)
	if e != api.OK || d == nil {
		t.Fatalf("New(%d): error %d", n, e)
	}
	return d
}

// downDevice: one with that image that has given up.
func downDevice(t *testing.T, image []byte) *sectors.Device {
	t.Helper()
	d := loaded(t, image)
	if e := d.Crash(api.Loss{}); e != api.OK || !d.Down() {
		t.Fatalf("Crash: error %d", e)
	}
	return d
}

func loaded(t *testing.T, image []byte) *sectors.Device {
	t.Helper()
	d, e := sectors.Load(image)
	if e != api.OK || d == nil {
		t.Fatalf("Load of %d bytes: error %d", len(image), e)
	}
	return d
}

func isCode(t *testing.T, what string, got, want api.Errno) {
	t.Helper()
	if got != want {
		t.Errorf("%s: error %d, want %d", what, got, want)
	}
}

// isOK: each of these calls was taken.
func isOK(t *testing.T, what string, codes ...api.Errno) {
	t.Helper()
	for i, e := range codes {
		if e != api.OK {
			t.Errorf("%s: call %d: error %d", what, i, e)
		}
	}
}

func isImage(t *testing.T, what string, d *sectors.Device, want ...[]byte) {
	t.Helper()
	got := d.Image()
	if len(got) != 512*len(want) {
		t.Fatalf("%s: an image of %d bytes, want %d", what, len(got), 512*len(want))
	}
	for i, w := range want {
		if s := got[512*i : 512*i+512]; !bytes.Equal(s, w) {
			t.Errorf("%s: sector %d of the image is %q..%q, want %q..%q", what, i, s[:4], s[508:], w[:4], w[508:])
		}
	}
}

func write(sector int, b []byte) api.Pending { return api.Pending{Sector: sector, Bytes: b} }

func isCache(t *testing.T, what string, d *sectors.Device, want ...api.Pending) {
	t.Helper()
	got := d.Cache()
	if len(got) != len(want) {
		t.Errorf("%s: %d pending writes, want %d", what, len(got), len(want))
		return
	}
	for k, w := range want {
		if got[k].Sector != w.Sector || !bytes.Equal(got[k].Bytes, w.Bytes) {
			t.Errorf("%s: pending write %d is of sector %d, %d bytes; want sector %d", what, k, got[k].Sector, len(got[k].Bytes), w.Sector)
		}
	}
}

func isRead(t *testing.T, what string, d *sectors.Device, i int, want []byte) {
	t.Helper()
	if b, e := d.Read(i); e != api.OK || !bytes.Equal(b, want) {
		t.Errorf("%s: Read(%d): error %d, %d bytes that begin with %q, want %q", what, i, e, len(b), b[:min(4, len(b))], want[:4])
	}
}

func isRefused(t *testing.T, what string, d *sectors.Device, i int, want api.Errno) {
	t.Helper()
	if b, e := d.Read(i); e != want || len(b) != 0 {
		t.Errorf("%s: Read(%d): error %d, %d bytes, want error %d", what, i, e, len(b), want)
	}
}

// taken: what a device tells of itself, as a copy.
type taken struct {
	image        []byte
	cache        []api.Pending
	count, calls int
	down         bool
}

func take(d *sectors.Device) taken {
	return taken{image: d.Image(), cache: d.Cache(), count: d.Sectors(), calls: d.Calls(), down: d.Down()}
}

func isAs(t *testing.T, what string, d *sectors.Device, want taken) {
	t.Helper()
	if d.Sectors() != want.count || d.Calls() != want.calls || d.Down() != want.down {
		t.Errorf("%s: %d sectors, %d calls, down %t; want %d, %d, %t", what, d.Sectors(), d.Calls(), d.Down(), want.count, want.calls, want.down)
	}
	if !bytes.Equal(d.Image(), want.image) {
		t.Errorf("%s: another image", what)
	}
	isCache(t, what, d, want.cache...)
}

func drawn(r *rand.Rand, n int) []byte {
	b := make([]byte, n)
	r.Read(b)
	return b
}
