package session_test

import (
	"bytes"
	"crypto/sha256"
	"fmt"
	"slices"
	"strings"
	"testing"

	"lethe/api"
	"lethe/sectors"
	"lethe/session"
	"lethe/store"
)

func zeros(n int) []byte { return make([]byte, n) }

// steps: n bytes that go up from the given one.
func steps(from byte, n int) []byte {
	b := make([]byte, n)
	for i := range b {
		b[i] = from + byte(i)
	}
	return b
}

// draw: number n of draws that are all unlike, as are their pairs.
func draw(n int) api.Key { return sha256.Sum256(four(uint32(n))) }

// someLimits: those of the chapter's examples.
func someLimits() api.Limits {
	return api.Limits{Peers: 2, Prekeys: 3, Skip: 4, Skips: 8, Outbox: 2, Counter: 100}
}

// wide: limits that refuse nothing that may be.
func wide() api.Limits {
	return api.Limits{Peers: 16, Prekeys: 64, Skip: 64, Skips: 256, Outbox: 64, Counter: 1<<32 - 1}
}

// whole: a list with its spare room.
func whole[T any](list []T) []T { return list[:cap(list)] }

// roomy: the same bytes, with room behind them that is not zero.
func roomy(b []byte) []byte { return joined(b, bytes.Repeat([]byte{0x5a}, 40))[:len(b)] }

// spoil: every byte is another one, spare room too.
func spoil(b []byte) {
	for i := range whole(b) {
		whole(b)[i] ^= 0xff
	}
}

// told: values by a digest, since those of one kind begin alike.
func told(list []api.Record) string {
	var parts []string
	for _, r := range list {
		digest := sha256.Sum256(r.Value)
		parts = append(parts, fmt.Sprintf("%d/%x/%d:%x", r.Table, r.Key, len(r.Value), digest[:4]))
	}
	return strings.Join(parts, " ")
}

func sameList(a, b []api.Record) bool {
	return slices.EqualFunc(a, b, func(x, y api.Record) bool {
		return x.Table == y.Table && bytes.Equal(x.Key, y.Key) && bytes.Equal(x.Value, y.Value)
	})
}

func isCode(t *testing.T, what string, got, want api.Errno) {
	t.Helper()
	if got != want {
		t.Errorf("%s: error %d, want %d", what, got, want)
	}
}

// lowKeys: those of which every shared secret is all zeros, in all their forms.
func lowKeys() []api.Key {
	ff := api.Key(bytes.Repeat([]byte{0xff}, 32))
	minusOne, p, next := ff, ff, ff
	minusOne[0], minusOne[31] = 0xec, 0x7f
	p[0], p[31] = 0xed, 0x7f
	next[0], next[31] = 0xee, 0x7f
	roots := []api.Key{
		{0xe0, 0xeb, 0x7a, 0x7c, 0x3b, 0x41, 0xb8, 0xae, 0x16, 0x56, 0xe3, 0xfa, 0xf1, 0x9f, 0xc4, 0x6a, 0xda, 0x09, 0x8d, 0xeb, 0x9c, 0x32, 0xb1, 0xfd, 0x86, 0x62, 0x05, 0x16, 0x5f, 0x49, 0xb8, 0x00},
		{0x5f, 0x9c, 0x95, 0xbc, 0xa3, 0x50, 0x8c, 0x24, 0xb1, 0xd0, 0xb1, 0x55, 0x9c, 0x83, 0xef, 0x5b, 0x04, 0x44, 0x5c, 0xc4, 0x58, 0x1c, 0x8e, 0x86, 0xd8, 0x22, 0x4e, 0xdd, 0xd0, 0x9f, 0x11, 0x57},
	}
	var all []api.Key
	for _, k := range append(roots, api.Key{}, api.Key{1}, minusOne, p, next) {
		high := k
		high[31] |= 0x80
		all = append(all, k, high)
	}
	return all
}

// others: records that are none of bob's, nor of alice's: of other tables with keys like theirs, and of other peers, whose names are like theirs. No call for bob or alice may mind or change them.
func others() []api.Record {
	var list []api.Record
	for _, table := range []int{0, 8, 9, 15} {
		for _, peer := range []string{"bob", "alice"} {
			for _, key := range [][]byte{wordsPeer(peer), joined(wordsPeer(peer), zeros(4)), joined(wordsPeer(peer), zeros(8)), joined(wordsPeer(peer), zeros(9))} {
				list = append(list, rec(table, key, steps(byte(table), 32)))
			}
		}
	}
	for _, peer := range []string{"b", "bobb", "bob\x00", "Bob", "alic", "alicea"} {
		list = append(list, rec(4, wordsPeer(peer), []byte("a state")), rec(5, joined(wordsPeer(peer), zeros(8)), steps(7, 32)), rec(5, joined(wordsPeer(peer), zeros(3)), nil), rec(6, wordsMailKey(peer, 0), []byte("a packet")), rec(6, wordsPeer(peer), nil))
	}
	for _, key := range []string{"\x00", "\x03", "\x03bo", "bob", "bob\x00\x00\x00\x00\x00\x00\x00\x00", "\x05alic", "\x05", "\xff\xff"} {
		list = append(list, rec(5, []byte(key), steps(9, 32)), rec(6, []byte(key), steps(9, 3)))
	}
	list = append(list, rec(3, []byte{9}, []byte("no prekey")), rec(1, []byte{1}, nil), rec(2, []byte{1}, steps(3, 64)), rec(7, []byte{1}, four(9)))
	return list
}

// bench: a client's store with an open transaction, what the words say that this one sees, and what the store's records are.
type bench struct {
	t     *testing.T
	d     *sectors.Device
	s     *store.Store
	x     *store.Tx
	list  []api.Record
	base  []api.Record // the store's
	calls int
	who   int // no two clients of a test have the same: their draws hang on it
	drawn int
}

// laidOut: a bench over a new disk of so many sectors with these records.
func laidOut(t *testing.T, size int, list ...api.Record) *bench {
	t.Helper()
	d, e := sectors.New(size)
	isCode(t, "New", e, api.OK)
	var sorted []api.Record
	for _, r := range list {
		sorted = wordsPut(sorted, r)
	}
	s, err := store.Load(d, sorted)
	if err != nil {
		t.Fatalf("Load of %s: %v", told(sorted), err)
	}
	b := &bench{t: t, d: d, s: s, base: sorted}
	b.begin()
	return b
}

// ground: the records that a client has from its beginning on.
func ground(lim api.Limits, identity api.Key) []api.Record {
	return []api.Record{rec(1, one(), wordsLimitsBytes(lim)), rec(2, one(), wordsPairBytes(wordsPair(identity))), rec(7, one(), four(0))}
}

// client: a bench over a new client's records, and these.
func client(t *testing.T, who int, lim api.Limits, more ...api.Record) *bench {
	t.Helper()
	b := laidOut(t, 801, append(ground(lim, draw(1000*who)), more...)...)
	b.who = who
	return b
}

// draw: one that was never taken.
func (b *bench) draw() api.Key {
	b.drawn++
	return draw(1000*b.who + b.drawn)
}

func (b *bench) begin() {
	b.t.Helper()
	x, e := b.s.Begin()
	if e != api.OK {
		b.t.Fatalf("Begin: error %d", e)
	}
	b.x, b.list, b.calls = x, b.base, b.d.Calls()
}

func (b *bench) commit() {
	b.t.Helper()
	if err := b.x.Commit(); err != nil {
		b.t.Fatalf("Commit: %v", err)
	}
	b.base = b.list
	b.begin()
}

func (b *bench) abort() {
	b.t.Helper()
	isCode(b.t, "Abort", b.x.Abort(), api.OK)
	b.begin()
}

// reopen: what was not committed is gone, and the store is opened anew.
func (b *bench) reopen() {
	b.t.Helper()
	s, err := store.Open(b.d)
	if err != nil {
		b.t.Fatalf("Open: %v", err)
	}
	b.s = s
	b.begin()
}

// lay, take: changes beside this layer's.
func (b *bench) lay(list ...api.Record) {
	b.t.Helper()
	for _, r := range list {
		isCode(b.t, fmt.Sprintf("Put of %d/%x", r.Table, r.Key), b.x.Put(r.Table, r.Key, r.Value), api.OK)
		b.list = wordsPut(b.list, r)
	}
}

// take: none is there then, whether one was or not.
func (b *bench) take(table int, key []byte) {
	b.x.Delete(table, key)
	b.list = wordsDelete(b.list, table, key)
}

// prekey: one of this number is there then; its bundle.
func (b *bench) prekey(number uint32) []byte {
	b.t.Helper()
	pair := wordsPair(b.draw())
	b.lay(rec(3, four(number), wordsPairBytes(pair)), rec(7, one(), four(number)))
	return wordsOffer(api.Offer{Identity: b.own().Pub, Prekey: number, Key: pair.Pub})
}

func (b *bench) own() api.Pair {
	pair, e := wordsIdentity(b.list)
	isCode(b.t, "the identity", e, 0)
	return pair
}

// state: the session's, which must be there.
func (b *bench) state(peer string) api.State {
	b.t.Helper()
	s, e := wordsStateOf(b.list, peer)
	if e != 0 {
		b.t.Fatalf("no state of %q: error %d", peer, e)
	}
	return s
}

// layState: whether it may be or not.
func (b *bench) layState(peer string, s api.State) {
	b.t.Helper()
	b.lay(rec(4, wordsPeer(peer), wordsState(s)))
}

// laySkipped: this skipped key.
func (b *bench) laySkipped(peer string, turn, n uint32, key api.Key) {
	b.t.Helper()
	b.lay(rec(5, wordsSkippedKey(peer, api.Skipped{Turn: turn, N: n}), key[:]))
}

// seen: all records that the transaction sees.
func (b *bench) seen() []api.Record {
	var list []api.Record
	for table := range 16 {
		for r := range b.x.Scan(table, nil) {
			list = append(list, r)
		}
	}
	return list
}

// isSeen: the transaction is open and sees what the words say, record by record; the store and its disk are as they were.
func (b *bench) isSeen(what string) {
	b.t.Helper()
	if got := b.seen(); !sameList(got, b.list) {
		b.t.Errorf("P21.1: %s: the records are\n%s\nwant\n%s", what, told(got), told(b.list))
	}
	if _, e := b.s.Begin(); e != api.ErrBusy {
		b.t.Errorf("P21.1: %s: the transaction is not open any more", what)
	}
	if !sameList(b.s.All(), b.base) || b.d.Calls() != b.calls {
		b.t.Errorf("P21.1: %s: the store, or its disk, has changed", what)
	}
}

// lend: copies of what is handed in, with bytes in their spare room.
func lend(parts ...[]byte) [][]byte {
	var list [][]byte
	for _, p := range parts {
		list = append(list, roomy(p))
	}
	return list
}

// isGiven: what was lent is as it was, spare room too; and then nobody notices that it is written over, nor that the answer is (whose bytes are handed back in other memory).
func (b *bench) isGiven(what string, lent, parts [][]byte, got, want []byte, e, code api.Errno) []byte {
	b.t.Helper()
	for i := range lent {
		if !bytes.Equal(whole(lent[i]), whole(roomy(parts[i]))) {
			b.t.Errorf("P21.1: %s: argument %d, or what lies behind it, is another one", what, i)
		}
		spoil(lent[i])
	}
	if e != code || !bytes.Equal(got, want) {
		b.t.Errorf("%s: answers error %d and %d bytes %x; want %d and %d bytes %x", what, e, len(got), got, code, len(want), want)
	}
	answer := bytes.Clone(got)
	spoil(got)
	b.isSeen(what)
	return answer
}

// The calls, each held against the words, with the records behind it; what they answer.

func (b *bench) initiate(what, peer string, bundle []byte, once, turn api.Key, text, data []byte) ([]byte, api.Errno) {
	b.t.Helper()
	parts := [][]byte{bundle, text, data}
	lent := lend(parts...)
	got, e := session.Initiate(b.x, peer, lent[0], once, turn, lent[1], lent[2])
	list, want, code := wordsInitiate(b.list, peer, bundle, once, turn, text, data)
	b.list = list
	return b.isGiven("P21.4: "+what+": Initiate", lent, parts, got, want, e, code), e
}

func (b *bench) accept(what, peer string, packet []byte, turn api.Key, data []byte) ([]byte, api.Errno) {
	b.t.Helper()
	parts := [][]byte{packet, data}
	lent := lend(parts...)
	got, e := session.Accept(b.x, peer, lent[0], turn, lent[1])
	list, want, code := wordsAccept(b.list, peer, packet, turn, data)
	b.list = list
	return b.isGiven("P21.5: "+what+": Accept", lent, parts, got, want, e, code), e
}

func (b *bench) send(what, peer string, text, data []byte) (uint32, []byte, api.Errno) {
	b.t.Helper()
	parts := [][]byte{text, data}
	lent := lend(parts...)
	serial, got, e := session.Send(b.x, peer, lent[0], lent[1])
	list, number, want, code := wordsSend(b.list, peer, text, data)
	b.list = list
	if serial != number {
		b.t.Errorf("P21.6: %s: Send answers serial %d, want %d", what, serial, number)
	}
	return serial, b.isGiven("P21.6: "+what+": Send", lent, parts, got, want, e, code), e
}

func (b *bench) receive(what, peer string, packet []byte, turn api.Key, data []byte) ([]byte, api.Errno) {
	b.t.Helper()
	parts := [][]byte{packet, data}
	lent := lend(parts...)
	got, e := session.Receive(b.x, peer, lent[0], turn, lent[1])
	list, want, code := wordsReceive(b.list, peer, packet, turn, data)
	b.list = list
	return b.isGiven("P21.7: "+what+": Receive", lent, parts, got, want, e, code), e
}

func (b *bench) forget(what, peer string) api.Errno {
	b.t.Helper()
	e := session.Forget(b.x, peer)
	list, code := wordsForget(b.list, peer)
	b.list = list
	isCode(b.t, "P21.8: "+what+": Forget", e, code)
	b.isSeen("P21.8: " + what + ": Forget")
	return e
}

func (b *bench) peers(what string) ([]string, api.Errno) {
	b.t.Helper()
	first, _ := session.Peers(b.x)
	got, e := session.Peers(b.x)
	for i := range whole(first) {
		whole(first)[i] = "written over"
	}
	want, code := wordsPeers(b.list)
	if e != code || !slices.Equal(got, want) {
		b.t.Errorf("P21.9: %s: Peers answers %q, %d; want %q, %d", what, got, e, want, code)
	}
	b.isSeen("P21.9: " + what + ": Peers")
	return got, e
}

func (b *bench) tell(what, peer string) (api.Status, api.Errno) {
	b.t.Helper()
	got, e := session.Tell(b.x, peer)
	want, code := wordsTell(b.list, peer)
	if e != code || got != want {
		b.t.Errorf("P21.10: %s: Tell answers %+v, %d; want %+v, %d", what, got, e, want, code)
	}
	b.isSeen("P21.10: " + what + ": Tell")
	return got, e
}

// The same with what is expected written out, so that a test does not lean on the words alone.

func (b *bench) initiates(what, peer string, bundle []byte, text, data string) []byte {
	b.t.Helper()
	packet, e := b.initiate(what, peer, bundle, b.draw(), b.draw(), []byte(text), []byte(data))
	isCode(b.t, "P21.4: "+what+": Initiate", e, 0)
	return packet
}

func (b *bench) sends(what, peer, text, data string) []byte {
	b.t.Helper()
	_, packet, e := b.send(what, peer, []byte(text), []byte(data))
	isCode(b.t, "P21.6: "+what+": Send", e, 0)
	return packet
}

func (b *bench) accepts(what, peer string, packet []byte, data, want string) {
	b.t.Helper()
	if text, e := b.accept(what, peer, packet, b.draw(), []byte(data)); e != 0 || string(text) != want {
		b.t.Errorf("P21.5: %s: Accept answers %q, error %d; want %q", what, text, e, want)
	}
}

func (b *bench) receives(what, peer string, packet []byte, data, want string) {
	b.t.Helper()
	if text, e := b.receive(what, peer, packet, b.draw(), []byte(data)); e != 0 || string(text) != want {
		b.t.Errorf("P21.7: %s: Receive answers %q, error %d; want %q", what, text, e, want)
	}
}

func (b *bench) refusesAccept(what, peer string, packet []byte, data string, code api.Errno) {
	b.t.Helper()
	_, e := b.accept(what, peer, packet, b.draw(), []byte(data))
	isCode(b.t, "P21.5: "+what+": Accept", e, code)
}

func (b *bench) refuses(what, peer string, packet []byte, data string, code api.Errno) {
	b.t.Helper()
	_, e := b.receive(what, peer, packet, b.draw(), []byte(data))
	isCode(b.t, "P21.7: "+what+": Receive", e, code)
}

func (b *bench) forgets(what, peer string, code api.Errno) {
	b.t.Helper()
	isCode(b.t, "P21.8: "+what+": Forget", b.forget(what, peer), code)
}

// has: how many records each of the tables 3 to 6 has.
func (b *bench) has(what string, prekeys, sessions, skipped, mails int) {
	b.t.Helper()
	got := [4]int{}
	for i := range got {
		got[i] = len(wordsUnder(b.seen(), 3+i, nil))
	}
	if want := [4]int{prekeys, sessions, skipped, mails}; got != want {
		b.t.Errorf("%s: tables 3 to 6 have %d records, want %d", what, got, want)
	}
}

// begun: two clients; alice has written to bob, and bob has taken the first packet.
func begun(t *testing.T, lim api.Limits, more ...api.Record) (a, b *bench) {
	t.Helper()
	a, b = client(t, 1, lim, more...), client(t, 2, lim, more...)
	p := a.initiates("begun", "bob", b.prekey(1), "first", "")
	b.accepts("begun", "alice", p, "", "first")
	return a, b
}
