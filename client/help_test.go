package client_test

import (
	"bytes"
	"crypto/sha256"
	"encoding/binary"
	"fmt"
	"slices"
	"strings"
	"testing"

	"lethe/api"
	"lethe/client"
	"lethe/sectors"
)

func zeros(n int) []byte { return make([]byte, n) }

func joined(parts ...[]byte) []byte { return bytes.Join(parts, nil) }

func four(n uint32) []byte { return binary.BigEndian.AppendUint32(nil, n) }

// draw: number n of draws that are all unlike, as are their pairs.
func draw(n int) []byte {
	d := sha256.Sum256(four(uint32(n)))
	return d[:]
}

// someLimits: narrow ones.
func someLimits() api.Limits {
	return api.Limits{Peers: 2, Prekeys: 3, Skip: 4, Skips: 8, Outbox: 2, Counter: 100}
}

// wide: limits that refuse nothing that may be.
func wide() api.Limits {
	return api.Limits{Peers: 16, Prekeys: 64, Skip: 64, Skips: 256, Outbox: 64, Counter: 1<<32 - 1}
}

func rec(table int, key, value []byte) api.Record {
	return api.Record{Table: table, Key: key, Value: value}
}

// without: the list without the record of this table and key, if there is one.
func without(list []api.Record, table int, key []byte) []api.Record {
	return slices.DeleteFunc(slices.Clone(list), func(r api.Record) bool { return r.Table == table && bytes.Equal(r.Key, key) })
}

// with: the list with these records, in its order.
func with(list []api.Record, more ...api.Record) []api.Record {
	for _, r := range more {
		list = append(without(list, r.Table, r.Key), r)
	}
	slices.SortFunc(list, func(a, b api.Record) int {
		if a.Table != b.Table {
			return a.Table - b.Table
		}
		return bytes.Compare(a.Key, b.Key)
	})
	return list
}

func sameList(a, b []api.Record) bool {
	return slices.EqualFunc(a, b, func(x, y api.Record) bool {
		return x.Table == y.Table && bytes.Equal(x.Key, y.Key) && bytes.Equal(x.Value, y.Value)
	})
}

// told: values by a digest, since those of one kind begin alike.
func told(list []api.Record) string {
	var parts []string
	for _, r := range list {
		digest := sha256.Sum256(r.Value)
		parts = append(parts, fmt.Sprintf("%d/%x/%d:%x", r.Table, r.Key, len(r.Value), digest[:4]))
	}
	return strings.Join(parts, " ")
}

// form: an error with all that lies in it: each Fault's call and place, and the number at the end.
func form(err error) string {
	switch x := err.(type) {
	case nil:
		return "nil"
	case *api.Fault:
		if x == nil {
			return "no Fault"
		}
		return fmt.Sprintf("%s %d: %s", x.Call, x.At, form(x.Err))
	case api.Errno:
		return fmt.Sprint(int(x))
	}
	return fmt.Sprintf("%T", err)
}

func isForm(t *testing.T, what string, err error, want string) {
	t.Helper()
	if form(err) != want {
		t.Errorf("%s: error %q, want %q", what, form(err), want)
	}
}

func isCode(t *testing.T, what string, got, want api.Errno) {
	t.Helper()
	if got != want {
		t.Errorf("%s: error %d, want %d", what, got, want)
	}
}

// whole: a list with its spare room.
func whole[T any](list []T) []T { return list[:cap(list)] }

// roomy: the same bytes, with room behind them that is not zero.
func roomy(b []byte) []byte { return joined(b, bytes.Repeat([]byte{0x5a}, 40))[:len(b)] }

// spoil: every byte is another one, spare room too.
func spoil(b []byte) {
	for i := range whole(b) {
		whole(b)[i] ^= 0xff
	}
}

// call: a client's call, with what it is handed.
type call struct {
	name       string
	peer       string
	bytes      []byte // a bundle, or a packet
	once, turn []byte
	text, data []byte
	serial     uint32
	draws      [][]byte
}

// answer: the lists of bytes that a call has answered; all else beside the error; the error.
type answer struct {
	lists [][]byte
	rest  string
	err   error
}

func (a answer) String() string { return fmt.Sprintf("%x %s; %s", a.lists, a.rest, form(a.err)) }

// copied: the same in memory of its own.
func (a answer) copied() answer {
	var lists [][]byte
	for _, b := range a.lists {
		lists = append(lists, bytes.Clone(b))
	}
	return answer{lists, a.rest, a.err}
}

// only: the one list of bytes that is answered.
func (a answer) only() []byte { return a.lists[0] }

// changes: is it a changing call?
func (x call) changes() bool {
	return slices.Contains([]string{"Publish", "Initiate", "Accept", "Send", "Receive", "Ack", "Forget"}, x.name)
}

// madeBy: the call is made.
func (x call) madeBy(m messenger) answer {
	switch x.name {
	case "Publish":
		bundles, err := m.Publish(x.draws...)
		return answer{bundles, "", err}
	case "Initiate":
		packet, err := m.Initiate(x.peer, x.bytes, x.once, x.turn, x.text, x.data)
		return answer{[][]byte{packet}, "", err}
	case "Accept":
		text, err := m.Accept(x.peer, x.bytes, x.turn, x.data)
		return answer{[][]byte{text}, "", err}
	case "Send":
		serial, packet, err := m.Send(x.peer, x.text, x.data)
		return answer{[][]byte{packet}, fmt.Sprint(serial), err}
	case "Receive":
		text, err := m.Receive(x.peer, x.bytes, x.turn, x.data)
		return answer{[][]byte{text}, "", err}
	case "Ack":
		return answer{nil, "", m.Ack(x.peer, x.serial)}
	case "Forget":
		return answer{nil, "", m.Forget(x.peer)}
	case "Close":
		return answer{nil, "", m.Close()}
	}
	return x.askedOf(m)
}

func (x call) askedOf(m messenger) answer {
	switch x.name {
	case "Identity":
		key, err := m.Identity()
		return answer{nil, fmt.Sprintf("%x", key), err}
	case "Replay":
		mails, err := m.Replay(x.peer)
		a := answer{nil, "", err}
		for i := range mails {
			a.lists = append(a.lists, mails[i].Bytes)
			a.rest += fmt.Sprintf(" %q %d", mails[i].Peer, mails[i].Serial)
		}
		return a
	case "Peers":
		names, err := m.Peers()
		return answer{nil, fmt.Sprintf("%q", names), err}
	case "Tell":
		s, err := m.Tell(x.peer)
		return answer{nil, fmt.Sprintf("%+v", s), err}
	case "Prekeys":
		numbers, err := m.Prekeys()
		return answer{nil, fmt.Sprint(numbers), err}
	case "Records":
		list, err := m.Records()
		a := answer{nil, "", err}
		for _, r := range list {
			a.lists = append(a.lists, r.Key, r.Value)
			a.rest += fmt.Sprintf(" %d", r.Table)
		}
		return a
	case "Pages":
		total, used, err := m.Pages()
		return answer{nil, fmt.Sprint(total, " ", used), err}
	}
	panic("no call " + x.name)
}

// lists: all that the call is handed as bytes.
func (x *call) lists() []*[]byte {
	all := []*[]byte{&x.bytes, &x.once, &x.turn, &x.text, &x.data}
	for i := range whole(x.draws) {
		all = append(all, &whole(x.draws)[i])
	}
	return all
}

// lent: the same call with copies of what it is handed, with bytes in their spare room, and a draw behind the draws.
func (x call) lent() call {
	x.draws = slices.Clip(append(slices.Clone(x.draws), []byte("a draw that is not handed in")))
	x.draws = x.draws[:len(x.draws)-1]
	for _, b := range x.lists() {
		*b = roomy(*b)
	}
	return x
}

// anyCalls: each call of a client once, for that peer, with arguments of the right form.
func anyCalls(peer string) []call {
	return []call{
		{name: "Identity"}, {name: "Publish", draws: [][]byte{draw(-1), draw(-2)}},
		{name: "Initiate", peer: peer, bytes: zeros(70), once: draw(-3), turn: draw(-4), text: []byte("text"), data: []byte("data")},
		{name: "Accept", peer: peer, bytes: zeros(166), turn: draw(-5), data: []byte("data")},
		{name: "Send", peer: peer, text: []byte("text"), data: []byte("data")},
		{name: "Receive", peer: peer, bytes: zeros(98), turn: draw(-6), data: []byte("data")},
		{name: "Ack", peer: peer}, {name: "Replay", peer: peer}, {name: "Forget", peer: peer}, {name: "Peers"}, {name: "Tell", peer: peer},
		{name: "Prekeys"}, {name: "Records"}, {name: "Pages"}, {name: "Close"},
	}
}

// asks: the asking ones among them.
func asks(peer string) []call {
	return slices.DeleteFunc(anyCalls(peer), func(x call) bool { return x.changes() || x.name == "Close" })
}

func disk(t *testing.T, size int) *sectors.Device {
	t.Helper()
	d, e := sectors.New(size)
	isCode(t, fmt.Sprint("New of ", size), e, 0)
	return d
}

func diskOf(t *testing.T, image []byte) *sectors.Device {
	t.Helper()
	d, e := sectors.Load(image)
	isCode(t, "Load", e, 0)
	return d
}

func opened(t *testing.T, what string, d *sectors.Device) *client.Client {
	t.Helper()
	c, err := client.Open(d)
	if err != nil || c == nil {
		t.Fatalf("%s: Open: %v", what, err)
	}
	return c
}

func recordsOf(t *testing.T, what string, c *client.Client) []api.Record {
	t.Helper()
	list, err := c.Records()
	if err != nil {
		t.Fatalf("%s: Records: %v", what, err)
	}
	return list
}

// isLaidOut: P22.4: the client has these records, the cache is empty, and the image is that of a new disk onto which they were put.
func isLaidOut(t *testing.T, what string, d *sectors.Device, c *client.Client, list []api.Record) {
	t.Helper()
	if got := recordsOf(t, what, c); !sameList(got, list) {
		t.Errorf("%s: the records are\n%s\nwant\n%s", what, told(got), told(list))
	}
	if n := len(d.Cache()); n != 0 {
		t.Errorf("P22.4: %s: %d pending writes", what, n)
	}
	if !bytes.Equal(d.Image(), layout(d.Sectors(), list)) {
		t.Errorf("P22.4: %s: the image is not the layout of the records", what)
	}
}

// bench: a client over its disk, and what the words say of it.
type bench struct {
	t     *testing.T
	d     *sectors.Device
	c     *client.Client
	w     words
	who   int // no two clients of a test have the same: their draws hang on it
	drawn int
}

// created: a new client on a new disk.
func created(t *testing.T, who, size int, lim api.Limits) *bench {
	t.Helper()
	d := disk(t, size)
	c, err := client.Create(d, lim, draw(1000*who))
	if err != nil || c == nil {
		t.Fatalf("Create: %v", err)
	}
	b := &bench{t: t, d: d, c: c, w: words{size: size, list: recordsOf(t, "Create", c)}, who: who}
	isLaidOut(t, "Create", d, c, b.w.list)
	return b
}

// over: a client that is opened over a new disk with these records.
func over(t *testing.T, size int, list []api.Record) *bench {
	t.Helper()
	d := diskOf(t, layout(size, list))
	return &bench{t: t, d: d, c: opened(t, "over", d), w: words{size: size, list: list}}
}

// copied: another client, opened over a copy of the disk.
func (b *bench) copied() *bench {
	b.t.Helper()
	d := diskOf(b.t, b.d.Image())
	return &bench{t: b.t, d: d, c: opened(b.t, "a copy", d), w: b.w, who: b.who, drawn: b.drawn}
}

// draw: one that was never taken.
func (b *bench) draw() []byte {
	b.drawn++
	return draw(1000*b.who + b.drawn)
}

// does: the call is made; its answer, what it was handed, what it hands out, the records and the image are held against the words.
func (b *bench) does(what string, x call) answer {
	b.t.Helper()
	what += ": " + x.name
	image, calls := b.d.Image(), b.d.Calls()
	lent := x.lent()
	got := lent.madeBy(b.c)
	b.isGiven(what, x, lent)
	want := x.madeBy(&b.w)
	if got.String() != want.String() {
		b.t.Errorf("%s answers\n%s\nwant\n%s", what, got, want)
	}
	kept := got.copied()
	b.areApart(what, got)
	if got.err != nil || !x.changes() {
		if !bytes.Equal(b.d.Image(), image) || b.d.Calls() != calls || len(b.d.Cache()) != 0 {
			b.t.Errorf("P22.3: %s: refused, or asking, and the disk has changed", what)
		}
	}
	if b.w.ended == 0 {
		isLaidOut(b.t, what, b.d, b.c, b.w.list)
	}
	if got.err == nil && x.changes() {
		if list := recordsOf(b.t, what, opened(b.t, what, diskOf(b.t, b.d.Image()))); !sameList(list, b.w.list) {
			b.t.Errorf("P22.2: %s: a copy of the image has the records\n%s\nwant\n%s", what, told(list), told(b.w.list))
		}
	}
	return kept
}

// isGiven: what was lent is as it was, spare room too; then it is written over.
func (b *bench) isGiven(what string, x, lent call) {
	b.t.Helper()
	fresh := x.lent()
	want := fresh.lists()
	for i, p := range lent.lists() {
		if !bytes.Equal(whole(*p), whole(*want[i])) {
			b.t.Errorf("rule 2: %s: argument %d, or what lies behind it, is another one", what, i)
		}
		spoil(*p)
	}
}

// areApart: the answer's lists share no memory: each is written over, spare room too, and the others are as they were.
func (b *bench) areApart(what string, a answer) {
	b.t.Helper()
	for i := range a.lists {
		before := a.copied()
		spoil(a.lists[i])
		for j := range a.lists {
			if j != i && !bytes.Equal(a.lists[j], before.lists[j]) {
				b.t.Errorf("rule 2: %s: lists %d and %d share memory", what, i, j)
			}
		}
	}
}

// reopens: the client is closed, and opened again over the same disk.
func (b *bench) reopens(what string) {
	b.t.Helper()
	image := b.d.Image()
	isForm(b.t, what+": Close", b.c.Close(), "nil")
	b.c = opened(b.t, what, b.d)
	if !bytes.Equal(b.d.Image(), image) {
		b.t.Errorf("%s: closing and opening again have changed the image", what)
	}
	isLaidOut(b.t, what+": opened again", b.d, b.c, b.w.list)
}

// The calls with what is expected written out, so that a test does not lean on the words alone.

func (b *bench) refuses(what string, x call, want string) {
	b.t.Helper()
	isForm(b.t, what+": "+x.name, b.does(what, x).err, want)
}

func (b *bench) takes(what string, x call) answer {
	b.t.Helper()
	a := b.does(what, x)
	isForm(b.t, what+": "+x.name, a.err, "nil")
	return a
}

func (b *bench) publishes(what string) []byte {
	b.t.Helper()
	return b.takes(what, call{name: "Publish", draws: [][]byte{b.draw()}}).only()
}

func (b *bench) initiates(what, peer string, bundle []byte, text, data string) []byte {
	b.t.Helper()
	return b.takes(what, b.firstTo(peer, bundle, text, data)).only()
}

func (b *bench) sends(what, peer, text, data string) []byte {
	b.t.Helper()
	return b.takes(what, call{name: "Send", peer: peer, text: []byte(text), data: []byte(data)}).only()
}

func (b *bench) accepts(what, peer string, packet []byte, data, text string) {
	b.t.Helper()
	if got := b.takes(what, b.coming("Accept", peer, packet, data)).only(); string(got) != text {
		b.t.Errorf("%s: Accept answers %q, want %q", what, got, text)
	}
}

func (b *bench) receives(what, peer string, packet []byte, data, text string) {
	b.t.Helper()
	if got := b.takes(what, b.coming("Receive", peer, packet, data)).only(); string(got) != text {
		b.t.Errorf("%s: Receive answers %q, want %q", what, got, text)
	}
}

// firstTo: an Initiate with new draws.
func (b *bench) firstTo(peer string, bundle []byte, text, data string) call {
	return call{name: "Initiate", peer: peer, bytes: bundle, once: b.draw(), turn: b.draw(), text: []byte(text), data: []byte(data)}
}

// coming: an Accept or a Receive with a new draw.
func (b *bench) coming(name, peer string, packet []byte, data string) call {
	return call{name: name, peer: peer, bytes: packet, turn: b.draw(), data: []byte(data)}
}

// begun: two clients; alice has written to bob, and bob has taken the first packet.
func begun(t *testing.T, lim api.Limits) (alice, bob *bench) {
	t.Helper()
	alice, bob = created(t, 1, 81, lim), created(t, 2, 81, lim)
	p := alice.initiates("begun", "bob", bob.publishes("begun"), "first", "")
	bob.accepts("begun", "alice", p, "", "first")
	return alice, bob
}

// together: two things that are done to a call have no word in common that says to what, so both can be done.
func together(on, other string) bool {
	words := strings.Fields(other)
	return !slices.ContainsFunc(strings.Fields(on), func(w string) bool { return slices.Contains(words, w) })
}
