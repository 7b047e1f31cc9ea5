package outbox_test

import (
	"bytes"
	"fmt"
	"slices"
	"strings"
	"testing"

	"lethe/api"
	"lethe/outbox"
	"lethe/sectors"
	"lethe/store"
)

func zeros(n int) []byte { return make([]byte, n) }

// steps: n bytes that go up from the given one.
func steps(from byte, n int) []byte {
	b := make([]byte, n)
	for i := range b {
		b[i] = from + byte(i)
	}
	return b
}

func rec(table int, key, value []byte) api.Record {
	return api.Record{Table: table, Key: key, Value: value}
}

// stray: a record of table 6 that begins with the peer's bytes, and then has these.
func stray(peer, behind string) api.Record {
	return rec(6, []byte(wordsBytes(peer)+behind), []byte("stray"))
}

// packetOf: that peer's record.
func packetOf(peer string, serial uint32, packet string) api.Record {
	return rec(6, wordsKey(peer, serial), []byte(packet))
}

// whole: a list with its spare room.
func whole[T any](list []T) []T { return list[:cap(list)] }

// roomy: the same bytes, with room behind them that is not zero.
func roomy(b []byte) []byte {
	return append(bytes.Clone(b), bytes.Repeat([]byte{0x5a}, 40)...)[:len(b)]
}

func told(list []api.Record) string {
	var parts []string
	for _, r := range list {
		parts = append(parts, fmt.Sprintf("%d/%x/%d:%.8x", r.Table, r.Key, len(r.Value), r.Value))
	}
	return strings.Join(parts, " ")
}

func toldMails(list []api.Mail) string {
	var parts []string
	for _, m := range list {
		parts = append(parts, fmt.Sprintf("%q %d %d:%.8x", m.Peer, m.Serial, len(m.Bytes), m.Bytes))
	}
	return strings.Join(parts, "; ")
}

func sameList(a, b []api.Record) bool {
	return slices.EqualFunc(a, b, func(x, y api.Record) bool {
		return x.Table == y.Table && bytes.Equal(x.Key, y.Key) && bytes.Equal(x.Value, y.Value)
	})
}

func sameMails(a, b []api.Mail) bool {
	return slices.EqualFunc(a, b, func(x, y api.Mail) bool {
		return x.Peer == y.Peer && x.Serial == y.Serial && bytes.Equal(x.Bytes, y.Bytes)
	})
}

func isCode(t *testing.T, what string, got, want api.Errno) {
	t.Helper()
	if got != want {
		t.Errorf("%s: error %d, want %d", what, got, want)
	}
}

// others: records of all other tables with keys like those of bob's packets, and such of table 6 that begin with nobody's bytes, or with another's: no call for bob may mind or change them.
func others() []api.Record {
	var list []api.Record
	for table := range 16 {
		if table == 6 {
			continue
		}
		for _, key := range []string{"\x03", wordsBytes("bob"), wordsBytes("bob") + "abc", string(wordsKey("bob", 0)), string(wordsKey("bob", 3)), string(wordsKey("bob", 1<<32-1)), wordsBytes("bob") + "abcde"} {
			list = append(list, rec(table, []byte(key), steps(byte(table), 9)))
		}
	}
	for _, key := range []string{"\x00", "\x00\x00\x00\x00\x00", "\x03", "\x03bo", "\x03b\x00\x00\x00\x00", "bob", "bob\x00\x00\x00\x03", "\x02bob\x00\x00\x00\x03", "\x04bob\x00\x00\x00\x03", "\x03bOb\x00\x00\x00\x03", "\x03boc", "\x11bob", "\xff\xff"} {
		list = wordsPut(list, rec(6, []byte(key), []byte("nobody's")))
	}
	for _, peer := range []string{"b", "bobb", "bobby", "Bob", "boc", "boa", "bob\x00", "\x03bob"} {
		list = wordsPut(list, packetOf(peer, 3, "another's"))
	}
	return wordsPut(list, packetOf("bobby", 1<<32-1, ""))
}

// bench: a store with an open transaction, what the words say that this one sees, and what the store's records are.
type bench struct {
	t     *testing.T
	d     *sectors.Device
	s     *store.Store
	x     *store.Tx
	list  []api.Record
	base  []api.Record // the store's
	calls int
}

// laidOut: a bench over a new disk with these records.
func laidOut(t *testing.T, list ...api.Record) *bench {
	t.Helper()
	d, e := sectors.New(801)
	isCode(t, "New", e, api.OK)
	var sorted []api.Record
	for _, r := range list {
		sorted = wordsPut(sorted, r)
	}
	s, err := store.Load(d, sorted)
	if err != nil {
		t.Fatalf("Load of %s: %v", told(sorted), err)
	}
	b := &bench{t: t, d: d, s: s, base: sorted}
	b.begin()
	return b
}

func (b *bench) begin() {
	b.t.Helper()
	x, e := b.s.Begin()
	if e != api.OK {
		b.t.Fatalf("Begin: error %d", e)
	}
	b.x, b.list, b.calls = x, b.base, b.d.Calls()
}

func (b *bench) commit() {
	b.t.Helper()
	if err := b.x.Commit(); err != nil {
		b.t.Fatalf("Commit: %v", err)
	}
	b.base = b.list
	b.begin()
}

func (b *bench) abort() {
	b.t.Helper()
	isCode(b.t, "Abort", b.x.Abort(), api.OK)
	b.begin()
}

// reopen: what was not committed is gone, and the store is opened anew.
func (b *bench) reopen() {
	b.t.Helper()
	s, err := store.Open(b.d)
	if err != nil {
		b.t.Fatalf("Open: %v", err)
	}
	b.s = s
	b.begin()
}

// lay, take: changes beside this layer's.
func (b *bench) lay(list ...api.Record) {
	b.t.Helper()
	for _, r := range list {
		isCode(b.t, "Put", b.x.Put(r.Table, r.Key, r.Value), api.OK)
		b.list = wordsPut(b.list, r)
	}
}

func (b *bench) take(r api.Record) {
	b.t.Helper()
	isCode(b.t, "Delete", b.x.Delete(r.Table, r.Key), api.OK)
	b.list = wordsDelete(b.list, r.Table, r.Key)
}

// seen: all records that the transaction sees.
func (b *bench) seen() []api.Record {
	var list []api.Record
	for table := range 16 {
		for r := range b.x.Scan(table, nil) {
			list = append(list, r)
		}
	}
	return list
}

// isSeen: the transaction is open and sees what the words say, record by record; the store and its disk are as they were.
func (b *bench) isSeen(what string) {
	b.t.Helper()
	if got := b.seen(); !sameList(got, b.list) {
		b.t.Errorf("P20.2: %s: the records are\n%s\nwant\n%s", what, told(got), told(b.list))
	}
	if _, e := b.s.Begin(); e != api.ErrBusy {
		b.t.Errorf("P20.1: %s: the transaction is not open any more", what)
	}
	if !sameList(b.s.All(), b.base) || b.d.Calls() != b.calls {
		b.t.Errorf("P20.1: %s: the store, or its disk, has changed", what)
	}
}

// The calls, each held against the words, with the records behind it; what they answer.

func (b *bench) put(what, peer string, serial uint32, packet []byte, most int) api.Errno {
	b.t.Helper()
	e := outbox.Put(b.x, peer, serial, packet, most)
	list, code := wordsOutboxPut(b.list, peer, serial, packet, most)
	if e != code {
		b.t.Errorf("P20.1: %s: Put(%q, %d, %d bytes, %d) answers %d, want %d", what, peer, serial, len(packet), most, e, code)
	}
	b.list = list
	b.isSeen(what + ": Put")
	return e
}

func (b *bench) ack(what, peer string, serial uint32) api.Errno {
	b.t.Helper()
	e := outbox.Ack(b.x, peer, serial)
	list, code := wordsAck(b.list, peer, serial)
	if e != code {
		b.t.Errorf("P20.1: %s: Ack(%q, %d) answers %d, want %d", what, peer, serial, e, code)
	}
	b.list = list
	b.isSeen(what + ": Ack")
	return e
}

func (b *bench) mails(what, peer string) ([]api.Mail, api.Errno) {
	b.t.Helper()
	got, e := outbox.List(b.x, peer)
	want, code := wordsList(b.list, peer)
	if !sameMails(got, want) || e != code {
		b.t.Errorf("P20.2: %s: List(%q) answers %s, %d; want %s, %d", what, peer, toldMails(got), e, toldMails(want), code)
	}
	b.isSeen(what + ": List")
	return got, e
}

func (b *bench) drop(what, peer string) (int, api.Errno) {
	b.t.Helper()
	got, e := outbox.Drop(b.x, peer)
	list, want, code := wordsDrop(b.list, peer)
	if got != want || e != code {
		b.t.Errorf("P20.1: %s: Drop(%q) answers %d, %d; want %d, %d", what, peer, got, e, want, code)
	}
	b.list = list
	b.isSeen(what + ": Drop")
	return got, e
}

// The same with what is expected written out, so that a test does not lean on the words alone.

func (b *bench) isPut(what, peer string, serial uint32, packet string, most int, want api.Errno) {
	b.t.Helper()
	isCode(b.t, "P20.1: "+what+": Put", b.put(what, peer, serial, []byte(packet), most), want)
}

func (b *bench) isAcked(what, peer string, serial uint32, want api.Errno) {
	b.t.Helper()
	isCode(b.t, "P20.1: "+what+": Ack", b.ack(what, peer, serial), want)
}

func (b *bench) isDropped(what, peer string, want int) {
	b.t.Helper()
	if n, e := b.drop(what, peer); n != want || e != 0 {
		b.t.Errorf("P20.1: %s: Drop(%q): %d, %d; want %d", what, peer, n, e, want)
	}
}

// areListed: serials with their packets, in their order.
func (b *bench) areListed(what, peer string, want ...api.Mail) {
	b.t.Helper()
	for i := range want {
		want[i].Peer = peer
	}
	if got, e := b.mails(what, peer); e != 0 || !sameMails(got, want) {
		b.t.Errorf("P20.2: %s: List(%q): %s, %d; want %s", what, peer, toldMails(got), e, toldMails(want))
	}
}

func mail(serial uint32, packet string) api.Mail {
	return api.Mail{Serial: serial, Bytes: []byte(packet)}
}
