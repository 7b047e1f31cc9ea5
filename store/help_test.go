package store_test

import (
	"bytes"
	"errors"
	"fmt"
	"iter"
	"math"
	"math/rand"
	"strings"
	"testing"

	"lethe/api"
	"lethe/sectors"
	"lethe/store"
)

func joined(parts ...[]byte) []byte { return bytes.Join(parts, nil) }

func zeros(n int) []byte { return make([]byte, n) }

func letters(n int) string { return strings.Repeat("v", n) }

func rec(table int, key, value string) api.Record {
	return api.Record{Table: table, Key: []byte(key), Value: []byte(value)}
}

func recs(list ...api.Record) []api.Record { return list }

// sized: a record of table 1 whose bytes are n.
func sized(key string, n int) api.Record { return rec(1, key, letters(n-4-len(key))) }

// whole: a list with its spare room.
func whole[T any](list []T) []T { return list[:cap(list)] }

// roomy: the same bytes, with room behind them that is not zero.
func roomy(b []byte) []byte { return joined(b, bytes.Repeat([]byte{0x5a}, 40))[:len(b)] }

// farNumbers: numbers whose low bits could be taken for small ones.
func farNumbers() []int {
	return []int{math.MinInt, math.MinInt + 1, -1 << 32, -1<<32 + 1, -256, -255, -2, -1, 16, 17, 256, 257, 1 << 16, 1 << 31, 1 << 32, 1<<32 + 1, math.MaxInt - 1, math.MaxInt}
}

// noRecords: one for each way in which a record may be none, each with all else right.
func noRecords() []api.Record {
	return recs(rec(-1, "m", "x"), rec(16, "m", "x"), rec(math.MinInt, "m", "x"), rec(math.MaxInt, "m", "x"), rec(257, "m", "x"), rec(1<<32+1, "m", "x"),
		rec(1, "", "x"), rec(1, letters(65), "x"), rec(1, letters(257), "x"), rec(1, "m", letters(901)), rec(1, "m", letters(65537)), api.Record{})
}

// told: a list in short.
func told(list []api.Record) string {
	var parts []string
	for _, r := range list {
		parts = append(parts, fmt.Sprintf("%d/%.9s/%.9s", r.Table, r.Key, r.Value))
	}
	return strings.Join(parts, " ")
}

func sameList(a, b []api.Record) bool {
	if len(a) != len(b) {
		return false
	}
	for i := range a {
		if a[i].Table != b[i].Table || !bytes.Equal(a[i].Key, b[i].Key) || !bytes.Equal(a[i].Value, b[i].Value) {
			return false
		}
	}
	return true
}

// gathered: what a loop over a sequence comes to.
func gathered(all iter.Seq[api.Record]) []api.Record {
	var list []api.Record
	for r := range all {
		list = append(list, r)
	}
	return list
}

func zeroDisk(t *testing.T, n int) *sectors.Device {
	t.Helper()
	d, e := sectors.New(n)
	if e != api.OK {
		t.Fatalf("New(%d): error %d", n, e)
	}
	return d
}

func diskWith(t *testing.T, image []byte) *sectors.Device {
	t.Helper()
	d, e := sectors.Load(image)
	if e != api.OK {
		t.Fatalf("Load of %d bytes: error %d", len(image), e)
	}
	return d
}

// loaded: a store of these records on a new disk.
func loaded(t *testing.T, n int, list ...api.Record) (*sectors.Device, *store.Store) {
	t.Helper()
	d := zeroDisk(t, n)
	s, err := store.Load(d, list)
	if err != nil || s == nil {
		t.Fatalf("Load of %d records onto %d sectors: %v", len(list), n, err)
	}
	return d, s
}

func opened(t *testing.T, d *sectors.Device) *store.Store {
	t.Helper()
	s, err := store.Open(d)
	if err != nil || s == nil {
		t.Fatalf("Open: %v", err)
	}
	return s
}

func begun(t *testing.T, s *store.Store) *store.Tx {
	t.Helper()
	x, e := s.Begin()
	if e != api.OK || x == nil {
		t.Fatalf("P12.9: Begin: error %d", e)
	}
	return x
}

// ended: a store of these records whose disk has given up in a Commit at once; the transaction, and what Commit answered.
func ended(t *testing.T, n int, list ...api.Record) (*sectors.Device, *store.Store, *store.Tx, error) {
	t.Helper()
	d, s := loaded(t, n, list...)
	x := begun(t, s)
	isCode(t, "Put, Arm", x.Put(9, []byte("new"), nil), api.OK)
	isCode(t, "Arm", d.Arm(1, api.Loss{Torn: -1}), api.OK)
	err := x.Commit()
	if api.Code(err) != api.ErrDown {
		t.Fatalf("Commit on a disk that gives up: %v", err)
	}
	return d, s, x, err
}

// committed: puts of these records in one transaction, which must be taken.
func committed(t *testing.T, s *store.Store, list ...api.Record) {
	t.Helper()
	x := begun(t, s)
	for _, r := range list {
		isCode(t, "Put", x.Put(r.Table, r.Key, r.Value), api.OK)
	}
	if err := x.Commit(); err != nil {
		t.Fatalf("Commit: %v", err)
	}
}

func isCode(t *testing.T, what string, got, want api.Errno) {
	t.Helper()
	if got != want {
		t.Errorf("%s: error %d, want %d", what, got, want)
	}
}

// isFault: err is a Fault of this call, at this place, with this number right inside.
func isFault(t *testing.T, what string, err error, call string, at int, code api.Errno) {
	t.Helper()
	f, ok := err.(*api.Fault)
	if !ok || f == nil {
		t.Errorf("%s: %v is no Fault, want %s at %d: %d", what, err, call, at, code)
		return
	}
	if e, ok := f.Err.(api.Errno); f.Call != call || f.At != at || !ok || e != code || api.Code(err) != code {
		t.Errorf("%s: %v, want %s at %d: %d", what, err, call, at, code)
	}
}

// isLower: err is a Fault of this call, with wal's own Fault of that call right inside.
func isLower(t *testing.T, what string, err error, call, lower string, code api.Errno) {
	t.Helper()
	f, ok := err.(*api.Fault)
	if !ok || f == nil || f.Call != call || f.At != 0 {
		t.Errorf("%s: %v, want %s at 0: %s at 0: %d", what, err, call, lower, code)
		return
	}
	isFault(t, what, f.Err, lower, 0, code)
	if !errors.Is(err, code) {
		t.Errorf("%s: %v holds no %d", what, err, code)
	}
}

func isGot(t *testing.T, what string, value []byte, e api.Errno, want string, code api.Errno) {
	t.Helper()
	if e != code || string(value) != want {
		t.Errorf("%s: Get: error %d, %.20q; want %d, %.20q", what, e, value, code, want)
	}
}

func isAll(t *testing.T, what string, s *store.Store, want []api.Record) {
	t.Helper()
	if got := s.All(); !sameList(got, want) {
		t.Errorf("%s: All: %s, want %s", what, told(got), told(want))
	}
}

func isScanned(t *testing.T, what string, all iter.Seq[api.Record], want []api.Record) {
	t.Helper()
	if all == nil {
		t.Errorf("%s: Scan: nil", what)
	} else if got := gathered(all); !sameList(got, want) {
		t.Errorf("%s: Scan: %s, want %s", what, told(got), told(want))
	}
}

func isPages(t *testing.T, what string, s *store.Store, total, used int) {
	t.Helper()
	if a, b := s.Pages(); a != total || b != used {
		t.Errorf("%s: Pages: %d, %d, want %d, %d", what, a, b, total, used)
	}
}

// taken: what a disk tells of itself, as a copy.
type taken struct {
	image []byte
	cache []api.Pending
	calls int
	down  bool
}

func take(d *sectors.Device) taken {
	return taken{image: d.Image(), cache: d.Cache(), calls: d.Calls(), down: d.Down()}
}

func isAs(t *testing.T, what string, d *sectors.Device, want taken) {
	t.Helper()
	got := take(d)
	if got.calls != want.calls || got.down != want.down {
		t.Errorf("%s: %d changing calls, down %t; want %d, %t", what, got.calls, got.down, want.calls, want.down)
	}
	isImage(t, what, got.image, want.image)
	if len(got.cache) != len(want.cache) {
		t.Errorf("%s: %d pending writes, want %d", what, len(got.cache), len(want.cache))
		return
	}
	for k, w := range want.cache {
		if got.cache[k].Sector != w.Sector || !bytes.Equal(got.cache[k].Bytes, w.Bytes) {
			t.Errorf("%s: pending write %d is another one", what, k)
		}
	}
}

func isImage(t *testing.T, what string, got, want []byte) {
	t.Helper()
	if len(got) != len(want) {
		t.Errorf("%s: %d bytes, want %d", what, len(got), len(want))
		return
	}
	for i := 0; i < len(want); i += 512 {
		if !bytes.Equal(got[i:i+512], want[i:i+512]) {
			t.Errorf("%s: sector %d of the image is %x.., want %x..", what, i/512, got[i:i+24], want[i:i+24])
		}
	}
}

// isLaidOut: P12.12: the store has these records, the cache is empty, and the image is their layout.
func isLaidOut(t *testing.T, what string, d *sectors.Device, s *store.Store, list []api.Record) {
	t.Helper()
	isAll(t, what, s, list)
	isPages(t, what, s, wordsRoom(d.Sectors()), len(wordsSplit(list)))
	if n := len(d.Cache()); n != 0 {
		t.Errorf("%s: %d pending writes", what, n)
	}
	isImage(t, what, d.Image(), wordsLayout(d.Sectors(), list))
	if s.Err() != nil {
		t.Errorf("%s: Err: %v", what, s.Err())
	}
}

// Drawn things: they hang on the seed alone.

// drawn: n bytes, none of them zero.
func drawn(r *rand.Rand, n int) []byte {
	b := make([]byte, n)
	for i := range b {
		b[i] = byte(1 + r.Intn(255))
	}
	return b
}

// drawnRecord: with keys that begin alike often, so that places meet, and values up to the greatest.
func drawnRecord(r *rand.Rand) api.Record {
	key := make([]byte, 1+r.Intn(3))
	if r.Intn(8) == 0 {
		key = make([]byte, 1+r.Intn(64))
	}
	for i := range key {
		key[i] = []byte{0, 1, 'a', 128, 255}[r.Intn(5)]
	}
	value := make([]byte, r.Intn(20))
	if r.Intn(3) == 0 {
		value = make([]byte, r.Intn(901))
	}
	for i := range value {
		value[i] = byte(r.Intn(256))
	}
	return api.Record{Table: r.Intn(16) * r.Intn(2), Key: key, Value: value}
}

// drawnList: a sorted list of at most n records, as many as a disk of so many sectors has room for.
func drawnList(r *rand.Rand, n, sectors int) []api.Record {
	var list []api.Record
	for range r.Intn(n + 1) {
		more := wordsPut(list, drawnRecord(r))
		if len(wordsSplit(more)) > wordsRoom(sectors)-1 {
			break
		}
		list = more
	}
	return list
}
