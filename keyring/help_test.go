package keyring_test

import (
	"bytes"
	"fmt"
	"slices"
	"strings"
	"testing"

	"lethe/api"
	"lethe/keyring"
	"lethe/sectors"
	"lethe/store"
)

func joined(parts ...[]byte) []byte { return bytes.Join(parts, nil) }

func zeros(n int) []byte { return make([]byte, n) }

// steps: n bytes that go up from the given one.
func steps(from byte, n int) []byte {
	b := make([]byte, n)
	for i := range b {
		b[i] = from + byte(i)
	}
	return b
}

// one: the key of a table's only record.
func one() []byte { return []byte{0} }

// draw: number n of draws that all have pairs of their own; most of them have bits at both ends that are clamped.
func draw(n int) []byte { return joined(steps(byte(n), 1), four(n), steps(byte(n+0x70), 27)) }

func draws(from, count int) [][]byte {
	var list [][]byte
	for i := range count {
		list = append(list, draw(from+i))
	}
	return list
}

func rec(table int, key, value []byte) api.Record {
	return api.Record{Table: table, Key: key, Value: value}
}

func recs(list ...api.Record) []api.Record { return list }

// prekey: a record of table 3.
func prekey(number int, value []byte) api.Record { return rec(3, four(number), value) }

// someLimits: those of the chapter's examples.
func someLimits() api.Limits {
	return api.Limits{Peers: 2, Prekeys: 3, Skip: 4, Skips: 8, Outbox: 4, Counter: 4}
}

// wideLimits: with room for that many prekeys, and numbers up to the last one.
func wideLimits(prekeys int, counter uint32) api.Limits {
	return api.Limits{Peers: 1, Prekeys: prekeys, Outbox: 1, Counter: counter}
}

// whole: a list with its spare room.
func whole[T any](list []T) []T { return list[:cap(list)] }

// roomy: the same bytes, with room behind them that is not zero.
func roomy(b []byte) []byte { return joined(b, bytes.Repeat([]byte{0x5a}, 40))[:len(b)] }

func told(list []api.Record) string {
	var parts []string
	for _, r := range list {
		parts = append(parts, fmt.Sprintf("%d/%x/%d:%.8x", r.Table, r.Key, len(r.Value), r.Value))
	}
	return strings.Join(parts, " ")
}

func sameList(a, b []api.Record) bool {
	return slices.EqualFunc(a, b, func(x, y api.Record) bool {
		return x.Table == y.Table && bytes.Equal(x.Key, y.Key) && bytes.Equal(x.Value, y.Value)
	})
}

func isCode(t *testing.T, what string, got, want api.Errno) {
	t.Helper()
	if got != want {
		t.Errorf("%s: error %d, want %d", what, got, want)
	}
}

// others: records of all other tables, with keys and values like those of this layer's, which no call may mind or change.
func others() []api.Record {
	var list []api.Record
	for _, table := range []int{0, 4, 5, 6, 8, 15} {
		list = append(list, rec(table, one(), steps(byte(table), 14)), rec(table, four(0), four(9)), rec(table, four(1), steps(byte(table+1), 64)), rec(table, four(2), nil))
	}
	return list
}

// bench: a store with an open transaction, what the words say that this one sees, and what the disk was.
type bench struct {
	t     *testing.T
	d     *sectors.Device
	s     *store.Store
	x     *store.Tx
	list  []api.Record
	base  []api.Record // the store's
	calls int
}

// laidOut: a bench over a new disk with these records.
func laidOut(t *testing.T, list []api.Record) *bench {
	t.Helper()
	d, e := sectors.New(121)
	isCode(t, "New", e, api.OK)
	s, err := store.Load(d, list)
	if err != nil {
		t.Fatalf("Load of %s: %v", told(list), err)
	}
	b := &bench{t: t, d: d, s: s, base: list}
	b.begin()
	return b
}

// created: a bench over a new client's records.
func created(t *testing.T, lim api.Limits) *bench {
	t.Helper()
	list, e := keyring.Records(lim, steps(0, 32))
	isCode(t, "Records", e, api.OK)
	return laidOut(t, list)
}

func (b *bench) begin() {
	b.t.Helper()
	x, e := b.s.Begin()
	if e != api.OK {
		b.t.Fatalf("Begin: error %d", e)
	}
	b.x, b.list, b.calls = x, b.base, b.d.Calls()
}

func (b *bench) commit() {
	b.t.Helper()
	if err := b.x.Commit(); err != nil {
		b.t.Fatalf("Commit: %v", err)
	}
	b.base = b.list
	b.begin()
}

func (b *bench) abort() {
	b.t.Helper()
	isCode(b.t, "Abort", b.x.Abort(), api.OK)
	b.begin()
}

// reopen: what was not committed is gone, and the store is opened anew.
func (b *bench) reopen() {
	b.t.Helper()
	s, err := store.Open(b.d)
	if err != nil {
		b.t.Fatalf("Open: %v", err)
	}
	b.s = s
	b.begin()
}

// put, drop: changes beside this layer's.
func (b *bench) put(r api.Record) {
	b.t.Helper()
	isCode(b.t, "Put", b.x.Put(r.Table, r.Key, r.Value), api.OK)
	b.list = wordsPut(b.list, r)
}

func (b *bench) drop(table int, key []byte) {
	b.t.Helper()
	isCode(b.t, "Delete", b.x.Delete(table, key), api.OK)
	b.list = wordsDelete(b.list, table, key)
}

// seen: all records that the transaction sees.
func (b *bench) seen() []api.Record {
	var list []api.Record
	for table := range 16 {
		for r := range b.x.Scan(table, nil) {
			list = append(list, r)
		}
	}
	return list
}

// isSeen: the transaction is open and sees what the words say, record by record; the store and its disk are as they were.
func (b *bench) isSeen(what string) {
	b.t.Helper()
	if got := b.seen(); !sameList(got, b.list) {
		b.t.Errorf("%s: the records are\n%s\nwant\n%s", what, told(got), told(b.list))
	}
	if _, e := b.s.Begin(); e != api.ErrBusy {
		b.t.Errorf("%s: the transaction is not open any more", what)
	}
	if !sameList(b.s.All(), b.base) || b.d.Calls() != b.calls {
		b.t.Errorf("%s: the store, or its disk, has changed", what)
	}
}

// The calls, each held against the words; what they answer.

func (b *bench) limits(what string) (api.Limits, api.Errno) {
	b.t.Helper()
	got, e := keyring.Limits(b.x)
	want, code := wordsLimits(b.list)
	if got != want || e != code {
		b.t.Errorf("P19.3: %s: Limits answers %+v, %d; want %+v, %d", what, got, e, want, code)
	}
	b.isSeen(what + ": Limits")
	return got, e
}

func (b *bench) identity(what string) (api.Pair, api.Errno) {
	b.t.Helper()
	got, e := keyring.Identity(b.x)
	want, code := wordsIdentity(b.list)
	if got != want || e != code {
		b.t.Errorf("P19.4: %s: Identity answers %x, %d; want %x, %d", what, got, e, want, code)
	}
	b.isSeen(what + ": Identity")
	return got, e
}

func (b *bench) publish(what string, draws ...[]byte) ([]api.Offer, api.Errno) {
	b.t.Helper()
	got, e := keyring.Publish(b.x, draws...)
	list, want, code := wordsPublish(b.list, draws)
	if !slices.Equal(got, want) || e != code {
		b.t.Errorf("P19.5: %s: Publish of %d draws answers %x, %d; want %x, %d", what, len(draws), got, e, want, code)
	}
	b.list = list
	b.isSeen(what + ": Publish")
	return got, e
}

func (b *bench) find(what string, number uint32) (api.Pair, api.Errno) {
	b.t.Helper()
	got, e := keyring.Find(b.x, number)
	want, code := wordsFind(b.list, number)
	if got != want || e != code {
		b.t.Errorf("P19.6: %s: Find(%d) answers %x, %d; want %x, %d", what, number, got, e, want, code)
	}
	b.isSeen(what + ": Find")
	return got, e
}

func (b *bench) use(what string, number uint32) (api.Pair, api.Errno) {
	b.t.Helper()
	got, e := keyring.Use(b.x, number)
	list, want, code := wordsUse(b.list, number)
	if got != want || e != code {
		b.t.Errorf("P19.6: %s: Use(%d) answers %x, %d; want %x, %d", what, number, got, e, want, code)
	}
	b.list = list
	b.isSeen(what + ": Use")
	return got, e
}

func (b *bench) numbers(what string) ([]uint32, api.Errno) {
	b.t.Helper()
	got, e := keyring.Numbers(b.x)
	want, code := wordsNumbers(b.list)
	if !slices.Equal(got, want) || e != code {
		b.t.Errorf("P19.7: %s: Numbers answers %d, %d; want %d, %d", what, got, e, want, code)
	}
	b.isSeen(what + ": Numbers")
	return got, e
}
