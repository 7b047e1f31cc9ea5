package client_test

import (
	"bytes"
	"fmt"
	"math/rand"
	"strings"
	"testing"

	"lethe/api"
	"lethe/client"
	"lethe/header"
)

// flight: a packet on its way, and what it carries.
type flight struct {
	packet     []byte
	from, to   int
	text, data string
}

// town: three clients under narrow limits, over disks that give up now and then, who write to one another.
type town struct {
	t       *testing.T
	r       *rand.Rand
	all     [3]*bench
	bundles [3][][]byte
	flights []flight
	out     [3]map[string]string // of each client: what it has handed out, by the header's key and number
	taken   map[string]int       // packets
	served  map[string]int       // prekeys
	count   map[string]int
}

func newTown(t *testing.T, run int, count map[string]int) *town {
	u := &town{t: t, r: rand.New(rand.NewSource(int64(2200 + run))), taken: map[string]int{}, served: map[string]int{}, count: count}
	lim := api.Limits{Peers: 1 + run%3, Prekeys: 4, Skip: 1 + run%3, Skips: 2 + run%5, Outbox: 2 + run%5, Counter: uint32(4 + run)}
	for who := range u.all {
		u.all[who] = created(t, 1+3*run+who, []int{81, 14, 41, 22}[run%4], lim)
		u.out[who] = map[string]string{}
	}
	return u
}

func nameOf(who int) string { return fmt.Sprint("client ", who) }

func (u *town) loss() api.Loss {
	return api.Loss{Keep: []uint64{u.r.Uint64() & u.r.Uint64()}, Torn: u.r.Intn(8) - 1, Offset: u.r.Intn(514)}
}

// outcome: what has come of a call: it was told; or it was not, and it happened, or it did not.
type outcome struct {
	answer
	told, happened bool
}

// makes: a call of that client, on a disk that may give up in it and in the Opens behind it.
func (u *town) makes(what string, who int, x call) outcome {
	u.t.Helper()
	b := u.all[who]
	if u.r.Intn(3) > 0 {
		a := b.does(what, x)
		u.count[fmt.Sprintf("%s %d", x.name, api.Code(a.err))]++
		return outcome{a, a.err == nil, a.err == nil}
	}
	ahead := b.w
	want := x.madeBy(&b.w)
	isCode(u.t, "Arm", b.d.Arm(1+u.r.Intn([]int{8, 30}[u.r.Intn(2)]), u.loss()), 0)
	got := x.madeBy(b.c)
	if !b.d.Down() {
		isCode(u.t, "Arm", b.d.Arm(0, api.Loss{}), 0)
		if got.String() != want.String() {
			u.t.Errorf("%s: %s answers %s, want %s", what, x.name, got, want)
		}
		isLaidOut(u.t, what, b.d, b.c, b.w.list)
		return outcome{got, got.err == nil, got.err == nil}
	}
	isForm(u.t, what, got.err, x.name+" 0: Commit 0: Commit 0: 80")
	u.boots(what, b)
	list := recordsOf(u.t, what, b.c)
	happened := sameList(list, b.w.list)
	if !happened {
		b.w = ahead
	}
	isLaidOut(u.t, what+", opened again", b.d, b.c, b.w.list)
	u.count[fmt.Sprintf("%s happened: %t", x.name, happened)]++
	return outcome{want, false, happened}
}

// boots: the disk is up, and opened as often as it gives up.
func (u *town) boots(what string, b *bench) {
	u.t.Helper()
	for {
		isCode(u.t, "Up", b.d.Up(), 0)
		isCode(u.t, "Arm", b.d.Arm(u.r.Intn(10), u.loss()), 0)
		c, err := client.Open(b.d)
		if err == nil {
			isCode(u.t, "Arm", b.d.Arm(0, api.Loss{}), 0)
			b.c = c
			return
		}
		isForm(u.t, what, err, "Open 0: Open 0: Open 0: 80")
		u.count["Open gave up"]++
	}
}

// handsOut: P5.
func (u *town) handsOut(what string, who int, packet []byte) {
	u.t.Helper()
	p, e := header.Unpack(packet)
	isCode(u.t, what, e, 0)
	place := fmt.Sprintf("%x %d", p.Header.Key, p.Header.N)
	if was, there := u.out[who][place]; there && was != string(packet) {
		u.t.Errorf("P5: %s: two packets of one key and number are unlike", what)
	}
	u.out[who][place] = string(packet)
}

// flies: what Initiate or Send has made is on its way: told by the call, or, if the disk gave up behind its commit, by Replay.
func (u *town) flies(what string, o outcome, f flight) {
	u.t.Helper()
	if o.told {
		u.handsOut(what, f.from, o.only())
	}
	if !o.happened {
		return
	}
	f.packet = o.only()
	again := u.replays(what, f.from, f.to)
	if len(again) == 0 || !bytes.Equal(again[len(again)-1], f.packet) {
		u.t.Errorf("%s: Replay does not answer the packet", what)
	}
	u.flights = append(u.flights, f)
}

func (u *town) replays(what string, who, peer int) [][]byte {
	u.t.Helper()
	a := u.all[who].does(what, call{name: "Replay", peer: nameOf(peer)})
	for _, packet := range a.lists {
		u.handsOut(what, who, packet)
	}
	return a.lists
}

// lands: one of the newest packets comes.
func (u *town) lands(what string) {
	u.t.Helper()
	if len(u.flights) == 0 {
		return
	}
	f := u.flights[max(0, len(u.flights)-1-u.r.Intn(7))]
	b, peer := u.all[f.to], nameOf(f.from)
	name := "Receive"
	if _, err := b.w.Tell(peer); api.Code(err) == 211 && f.packet[1] == 1 {
		name = "Accept"
	}
	data := f.data
	if u.r.Intn(12) == 0 {
		data += "x"
	}
	o := u.makes(what, f.to, b.coming(name, peer, f.packet, data))
	if !o.happened {
		return
	}
	if string(o.only()) != f.text || data != f.data {
		u.t.Errorf("P2: %s: %q under data %q, want %q under %q", what, o.only(), data, f.text, f.data)
	}
	if u.taken[string(f.packet)]++; u.taken[string(f.packet)] > 1 {
		u.t.Errorf("P6: %s: a packet is taken %d times", what, u.taken[string(f.packet)])
	}
	if name == "Accept" {
		prekey := fmt.Sprintf("%d %x", f.to, f.packet[66:70])
		if u.served[prekey]++; u.served[prekey] > 1 {
			u.t.Errorf("P6: %s: a prekey serves %d times", what, u.served[prekey])
		}
	}
}

func (u *town) steps(what string) {
	u.t.Helper()
	who := u.r.Intn(3)
	to := (who + 1 + u.r.Intn(2)) % 3
	b, peer := u.all[who], nameOf(to)
	f := flight{from: who, to: to, text: "text of " + what, data: []string{"", "d"}[u.r.Intn(2)]}
	if u.r.Intn(3) == 0 {
		f.text += strings.Repeat(".", u.r.Intn(400))
	}
	switch u.r.Intn(32) {
	case 0, 1:
		draws := [][]byte{b.draw(), b.draw()}[:1+u.r.Intn(2)]
		if o := u.makes(what, who, call{name: "Publish", draws: draws}); o.happened {
			u.bundles[who] = append(u.bundles[who], o.lists...)
		}
	case 2, 3, 4, 5:
		// Two who write first at the same time have two sessions, and understand each other no more: that is seldom.
		if list := u.bundles[to]; len(list) > 0 && (who < to || u.r.Intn(9) == 0) {
			bundle := list[max(0, len(list)-1-u.r.Intn(3))]
			u.flies(what, u.makes(what, who, b.firstTo(peer, bundle, f.text, f.data)), f)
		}
	case 6, 7, 8, 9, 10, 11:
		u.flies(what, u.makes(what, who, call{name: "Send", peer: peer, text: []byte(f.text), data: []byte(f.data)}), f)
	case 12:
		for _, mail := range u.replays(what, who, to) {
			u.flights = append(u.flights, u.sameAs(mail))
		}
	case 13, 14:
		if mails, _ := b.w.Replay(peer); len(mails) > 0 {
			u.makes(what, who, call{name: "Ack", peer: peer, serial: mails[u.r.Intn(len(mails))].Serial})
		}
	case 15:
		u.makes(what, who, call{name: "Forget", peer: peer})
		if u.r.Intn(5) > 0 {
			u.makes(what, to, call{name: "Forget", peer: nameOf(who)})
		}
	case 16:
		b.reopens(what)
	default:
		u.lands(what)
	}
}

// sameAs: the flight of a packet that is sent again.
func (u *town) sameAs(packet []byte) flight {
	u.t.Helper()
	for _, f := range u.flights {
		if bytes.Equal(f.packet, packet) {
			return f
		}
	}
	u.t.Fatalf("P5: Replay answers a packet that was never made")
	return flight{}
}

// P22.6, P22.2 to P22.5: drawn talks, with disks that give up in every kind of call: P2, P5 and P6 hold.
func TestDrawnTalks(t *testing.T) {
	t.Parallel()
	count := map[string]int{}
	for run := range 36 {
		u := newTown(t, run, count)
		for n := range 300 {
			u.steps(fmt.Sprintf("run %d, step %d", run, n))
			if t.Failed() {
				return
			}
		}
		for _, b := range u.all {
			b.reopens("at last")
		}
		count["taken"] += len(u.taken)
	}
	for what, least := range map[string]int{
		"Publish happened: true": 8, "Publish happened: false": 8, "Initiate happened: true": 8, "Initiate happened: false": 8, "Accept happened: true": 8, "Accept happened: false": 8,
		"Send happened: true": 20, "Send happened: false": 20, "Receive happened: true": 20, "Receive happened: false": 20, "Ack happened: true": 8, "Ack happened: false": 8, "Forget happened: true": 3, "Forget happened: false": 3,
		"Open gave up": 50, "taken": 300, "Receive 161": 50, "Receive 50": 5, "Accept 190": 5, "Send 200": 20, "Initiate 210": 20, "Send 120": 2, "Initiate 120": 3,
	} {
		if count[what] < least {
			t.Errorf("%q was met %d times alone", what, count[what])
		}
	}
}

// P5: Replay answers the very bytes that Initiate and Send have answered, whatever comes between, until they are acknowledged.
func TestReplay(t *testing.T) {
	alice, bob := created(t, 1, 81, wide()), created(t, 2, 81, wide())
	packets := map[uint32][]byte{0: alice.initiates("0", "bob", bob.publishes("a bundle"), "text 0", "d")}
	var waiting []uint32
	are := func(what string) {
		t.Helper()
		mails, err := alice.c.Replay("bob")
		if err != nil || len(mails) != len(waiting) {
			t.Fatalf("P5: %s: Replay answers %d packets, %v; want %d", what, len(mails), err, len(waiting))
		}
		for i, m := range mails {
			if m.Peer != "bob" || m.Serial != waiting[i] || !bytes.Equal(m.Bytes, packets[waiting[i]]) {
				t.Errorf("P5: %s: Replay answers %q %d %x, want %d %x", what, m.Peer, m.Serial, m.Bytes, waiting[i], packets[waiting[i]])
			}
		}
	}
	waiting = []uint32{0}
	are("one")
	bob.accepts("0", "alice", packets[0], "d", "text 0")
	for serial := uint32(1); serial < 12; serial++ {
		packets[serial] = alice.sends("more", "bob", fmt.Sprint("text ", serial), "d")
		waiting = append(waiting, serial)
		are("more")
		if serial%3 == 0 { // a new turn of each
			bob.receives("more", "alice", packets[serial], "d", fmt.Sprint("text ", serial))
			alice.receives("an answer", "bob", bob.sends("an answer", "alice", "answer", ""), "", "answer")
			are("a new turn")
		}
		if serial%4 == 0 {
			alice.takes("an older one", call{name: "Ack", peer: "bob", serial: waiting[1]})
			waiting = append(waiting[:1], waiting[2:]...)
			are("behind Ack")
			alice.reopens("more")
			are("opened again")
		}
		if serial%5 == 0 {
			isCode(t, "Arm", alice.d.Arm(4, api.Loss{Torn: -1}), 0)
			_, _, err := alice.c.Send("bob", []byte("never made"), nil)
			isCode(t, "Send", api.Code(err), 80)
			isCode(t, "Up", alice.d.Up(), 0)
			alice.c = opened(t, "given up", alice.d)
			are("given up")
		}
	}
	alice.takes("at last", call{name: "Forget", peer: "bob"})
	alice.refuses("at last", call{name: "Replay", peer: "bob"}, "Replay 0: 211")
}
