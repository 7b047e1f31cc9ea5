package session_test

import (
	"crypto/sha256"
	"encoding/hex"
	"fmt"
	"strings"
	"testing"

	"lethe/api"
	"lethe/session"
)

// P21.1 to P21.12: the chapter's table, row by row, each row from the one above it.
func TestExamples(t *testing.T) {
	a, b := client(t, 1, someLimits()), client(t, 2, someLimits())
	bundle := b.prekey(1)
	isCode(t, "Name of none", session.Name(""), 212)
	isCode(t, "Name of one", session.Name("x"), 0)
	isCode(t, "Name of 17", session.Name(strings.Repeat("n", 17)), 212)
	_, _, e := a.send("no session", "bob", nil, nil)
	isCode(t, "Send", e, 211)
	a.refuses("no session", "bob", nil, "", 211)
	a.forgets("no session", "bob", 211)
	_, e = a.tell("no session", "bob")
	isCode(t, "Tell", e, 211)
	_, e = a.initiate("no bytes", "bob", nil, a.draw(), a.draw(), nil, nil)
	isCode(t, "Initiate by no bytes", e, 10)
	p0 := a.initiates("the first", "bob", bundle, "hello", "")
	_, e = a.initiate("again", "bob", bundle, a.draw(), a.draw(), nil, nil)
	isCode(t, "Initiate again", e, 210)
	serial, p1, e := a.send("again", "bob", []byte("again"), nil)
	if e != 0 || serial != 1 || p0[1] != 1 || p1[1] != 1 {
		t.Errorf("P21.6: error %d, serial %d, kinds %d and %d", e, serial, p0[1], p1[1])
	}
	_, _, e = a.send("more", "bob", []byte("more"), nil)
	isCode(t, "two are unacknowledged", e, 200)
	b.refuses("no session", "alice", p1, "", 211)
	b.refusesAccept("other data", "alice", p1, "x", 50)
	b.has("P21.5: refused", 1, 0, 0, 0)
	b.accepts("the second first", "alice", p1, "", "again")
	b.has("P21.5: taken", 0, 1, 1, 0)
	b.refusesAccept("the prekey is used", "carol", p0, "", 190)
	b.receives("the first", "alice", p0, "", "hello")
	b.has("P21.7: taken", 0, 1, 0, 0)
	b.refuses("again", "alice", p0, "", 161)
	serial, q0, e := b.send("an answer", "alice", []byte("hi"), nil)
	if e != 0 || serial != 0 || q0[1] != 2 {
		t.Errorf("P21.6: error %d, serial %d, kind %d", e, serial, q0[1])
	}
	a.receives("an answer", "bob", q0, "", "hi")
	s, e := a.tell("both have spoken", "bob")
	want := api.Status{Peer: "bob", Identity: b.own().Pub, Sid: a.state("bob").Sid, Own: 2, Turns: 1, Got: 1, Unanswered: 2}
	if e != 0 || s != want {
		t.Errorf("P21.10: Tell answers %+v, error %d; want %+v", s, e, want)
	}
	if names, e := a.peers("one"); e != 0 || fmt.Sprint(names) != "[bob]" {
		t.Errorf("P21.9: Peers answers %q, error %d", names, e)
	}
	a.forgets("at last", "bob", 0)
	if names, e := a.peers("none"); e != 0 || len(names) != 0 {
		t.Errorf("P21.9: Peers answers %q, error %d", names, e)
	}
	if !sameList(a.seen(), ground(someLimits(), draw(1000))) {
		t.Errorf("P21.8: behind Forget: %s", told(a.seen()))
	}
}

// The document's examples of the whole, as far as sessions go: two stores, each call a transaction of its own.

func unhex(s string) []byte {
	b, err := hex.DecodeString(s)
	if err != nil {
		panic(err)
	}
	return b
}

// wholeDraw: Dk.
func wholeDraw(k byte) api.Key { return api.Key{0: 8 * k, 31: 64} }

const (
	wholeBundle = "01038d20f8c7bbfb9af3da4ef532ed44efc68ce642bc5d0c5cb1d7b91b96c74edf0200000001ae8b046f96cb5841c86fd8b63d3d6265b209dfa0df66bdaa42b7a9fc59779523"
	wholePacket = "0101422c8e7a6227d7bca1350b3e2bb7279f7897b87bb6854b783c60e80311ae30790f524bef7e12258fd9eefcd9e468b21e" +
		"543d90cc4a54b347f48cc5969febf43200000001bf3412d4e13c430e952c48438d6fa11d0000000087558542bbbfff0f9390" +
		"2ffa8434b44235daa830ccffb1a6b5300b3cda701d05000000000000000000221a3082d11b525935c463d82725c20b93a1cd" +
		"a48a74d126704924eaf002a0df674491"
)

// opening: nodes 1 and 2, and the packet P0.
func opening(t *testing.T) (a, b *bench, p0 []byte) {
	t.Helper()
	lim := api.Limits{Peers: 2, Prekeys: 2, Skip: 2, Skips: 4, Outbox: 2, Counter: 9}
	a, b = laidOut(t, 81, ground(lim, wholeDraw(1))...), laidOut(t, 81, ground(lim, wholeDraw(2))...)
	prekey := wordsPair(wholeDraw(3))
	b.lay(rec(3, four(1), wordsPairBytes(prekey)), rec(7, one(), four(1)))
	b.commit()
	p0, e := a.initiate("the opening", "node 2", unhex(wholeBundle), wholeDraw(4), wholeDraw(5), unhex("6869"), nil)
	isCode(t, "P21.4: the opening", e, 0)
	if hex.EncodeToString(p0) != wholePacket {
		t.Errorf("P21.4: the packet is %x, want %s", p0, wholePacket)
	}
	a.commit()
	return a, b, p0
}

// hears: what comes to 2 of 1 under that draw, in a transaction of its own.
func (b *bench) hears(accept bool, packet []byte, k byte, data []byte, want string, code api.Errno) {
	b.t.Helper()
	call := b.receive
	if accept {
		call = b.accept
	}
	text, e := call("an example of the whole", "node 1", packet, wholeDraw(k), data)
	if string(text) != want || e != code {
		b.t.Errorf("P21.5, P21.7: %q, error %d; want %q, %d", text, e, want, code)
	}
	if e == 0 {
		b.commit()
	}
}

func (b *bench) isImage(what, digest string) {
	b.t.Helper()
	if got := sha256.Sum256(b.d.Image()); hex.EncodeToString(got[:]) != digest {
		b.t.Errorf("%s: the image's digest is %x, want %s", what, got, digest)
	}
}

func TestExamplesOfTheWhole(t *testing.T) {
	a, b, p0 := opening(t)
	b.hears(true, p0, 6, nil, "hi", 0)
	p1 := b.sends("example 1", "node 1", "yes", "")
	b.commit()
	if text, e := a.receive("example 1", "node 2", p1, wholeDraw(7), nil); string(text) != "yes" || e != 0 {
		t.Errorf("P21.7: example 1: %q, error %d", text, e)
	}
	a.commit()
	s, e := a.tell("example 1", "node 2")
	if e != 0 || s.Sent != 0 || s.Got != 1 || hex.EncodeToString(joined(s.Sid[:], four(s.Own), four(s.Turns))) != "bf3412d4e13c430e952c48438d6fa11d0000000200000001" {
		t.Errorf("P21.10: example 1: %+v, error %d", s, e)
	}
	a.isImage("example 1", "9bd82874ff94cc762c18f3b9c53d3da0e97429aa96c80ff0619929a565affefb")
	b.isImage("example 1", "effb1d84ff60f516b9cb06770beb1c5b659a7edd15e0137c1612790353021236")

	a, b, p0 = opening(t)
	b.hears(true, p0, 6, nil, "hi", 0)
	b.hears(false, p0, 7, nil, "", 161)
	a.isImage("example 3", "987c7f33f8a156eb809a42f3b342f21a123ad63486860123fd71c7baa43b82a8")
	b.isImage("example 3", "68c453f0efd193584e27fdfcc810a927d6726097033568fbd2af162d42bfb372")

	a, b, p0 = opening(t)
	p2 := a.sends("example 4", "node 2", "a", "")
	a.commit()
	b.hears(true, p2, 6, nil, "a", 0)
	b.hears(false, p0, 7, nil, "hi", 0)
	a.isImage("example 4", "56e6c641b32c688b3b9cec467c7349d9ec1bc2803a4c714a06d8817ad30f3e80")
	b.isImage("example 4", "8ba23f512443badb8246ddf62b52cf5675fd8cf1defee9e1acd0fafe0dd191b2")

	a, b, p0 = opening(t)
	b.hears(true, p0, 6, []byte{1}, "", 50)
	b.hears(true, p0, 6, nil, "hi", 0)
	a.isImage("example 7", "987c7f33f8a156eb809a42f3b342f21a123ad63486860123fd71c7baa43b82a8")
	b.isImage("example 7", "68c453f0efd193584e27fdfcc810a927d6726097033568fbd2af162d42bfb372")
}

// Examples 5 and 6: 2's disk gives up as a message's transaction is committed; ahead of the commit, and behind it.
func TestExamplesThatGiveUp(t *testing.T) {
	a, b, p0 := opening(t)
	b.hears(true, p0, 6, nil, "hi", 0)
	isCode(t, "Arm", b.d.Arm(3, api.Loss{Torn: -1}), 0)
	b.sends("example 5", "node 1", "a", "")
	isCode(t, "Commit", api.Code(b.x.Commit()), 80)
	isCode(t, "Up", b.d.Up(), 0)
	b.reopen()
	p3 := b.sends("example 5, anew", "node 1", "b", "")
	b.commit()
	if text, e := a.receive("example 5", "node 2", p3, wholeDraw(7), nil); string(text) != "b" || e != 0 {
		t.Errorf("P21.7: example 5: %q, error %d", text, e)
	}
	a.commit()
	a.isImage("example 5", "9bd82874ff94cc762c18f3b9c53d3da0e97429aa96c80ff0619929a565affefb")
	b.isImage("example 5", "c7ea0593a626b2c845002651d428c90e2c4687a1359c225e4c8c8fedf6a8a876")

	_, b, p0 = opening(t)
	b.hears(true, p0, 6, nil, "hi", 0)
	isCode(t, "Arm", b.d.Arm(12, api.Loss{Keep: []uint64{1<<64 - 1}, Torn: -1}), 0)
	b.sends("example 6", "node 1", "a", "")
	isCode(t, "Commit", api.Code(b.x.Commit()), 80)
	isCode(t, "Up", b.d.Up(), 0)
	b.base = b.list
	b.reopen()
	b.isSeen("example 6")
	b.isImage("example 6", "c9e30d0a93d017e6d7156d68bffb0f43e006cbd2e005263dde63bb1345e0612d")
}

func TestExamplesThatForget(t *testing.T) {
	a, b, p0 := opening(t)
	b.hears(true, p0, 6, nil, "hi", 0)
	a.forgets("example 8", "node 2", 0)
	a.commit()
	b.forgets("example 8", "node 1", 0)
	b.commit()
	b.forgets("example 8, again", "node 1", 211)
	a.isImage("example 8", "2cf58e9a395ed0818e80892f98132ba113ec7a7c53edddf26232bc6950395166")
	b.isImage("example 8", "d072f5d6a76a325b9793207eaef1f26e308918c0408d4d3d8a6ee7dd2599cd9b")
	b.hears(true, p0, 6, nil, "", 190)
	b.isImage("example 9", "d072f5d6a76a325b9793207eaef1f26e308918c0408d4d3d8a6ee7dd2599cd9b")
}
