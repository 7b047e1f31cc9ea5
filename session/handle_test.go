package session_test

import (
	"bytes"
	"fmt"
	"strings"
	"testing"

	"lethe/api"
	"lethe/session"
	"lethe/store"
)

// callName: by the place in what all answers; Peers is the last one, since it takes no peer.
func callName(i int) string {
	return []string{"Initiate", "Accept", "Send", "Receive", "Forget", "Tell", "Peers"}[i]
}

// all: every call's error; where one has another answer beside it, that is noted as -1.
func all(x *store.Tx, peer string, b, text, data []byte) [7]api.Errno {
	var codes [7]api.Errno
	note := func(i int, e api.Errno, zero bool) {
		codes[i] = e
		if e != api.OK && !zero {
			codes[i] = -1
		}
	}
	p, e := session.Initiate(x, peer, b, draw(1), draw(2), text, data)
	note(0, e, len(p) == 0)
	p, e = session.Accept(x, peer, b, draw(3), data)
	note(1, e, len(p) == 0)
	n, p, e := session.Send(x, peer, text, data)
	note(2, e, len(p) == 0 && n == 0)
	p, e = session.Receive(x, peer, b, draw(4), data)
	note(3, e, len(p) == 0)
	note(4, session.Forget(x, peer), true)
	s, e := session.Tell(x, peer)
	note(5, e, s == api.Status{})
	names, e := session.Peers(x)
	note(6, e, len(names) == 0)
	return codes
}

// areRefused: every call answers that error, whatever else it is handed. (Peers has an error of its own, where it is a name that is refused.)
func areRefused(t *testing.T, what string, x *store.Tx, peers []string, packets [][]byte, want, ofPeers api.Errno) {
	t.Helper()
	for _, peer := range peers {
		for _, packet := range packets {
			for _, size := range []int{0, 3, 600} {
				for i, e := range all(x, peer, packet, zeros(size), zeros(size)) {
					code := want
					if i == 6 {
						code = ofPeers
					}
					isCode(t, fmt.Sprintf("P21.1: %s: %s of %q, %d bytes, texts of %d", what, callName(i), peer, len(packet), size), e, code)
				}
			}
		}
	}
}

func rightNames() []string {
	return []string{"bob", "alice", "carol", "odd", strings.Repeat("n", 16)}
}

func wrongNames() []string {
	return []string{"", strings.Repeat("n", 17), strings.Repeat("n", 18), strings.Repeat("\x00", 256), "bob" + strings.Repeat("\x00", 256), strings.Repeat("n", 272), strings.Repeat("n", 1<<16+3)}
}

// aStore: a client in the midst of sessions, and what may come to it: a bundle, a first packet, and a further one.
func aStore(t *testing.T) (b *bench, packets [][]byte) {
	t.Helper()
	a, b := begun(t, wide())
	bundle := a.prekey(1)
	p := a.sends("a store", "bob", "next", "")
	b.lay(rec(4, wordsPeer("odd"), nil), rec(5, wordsPeer("odd"), nil), rec(6, wordsPeer("odd"), nil))
	c := client(t, 3, wide())
	q := c.initiates("a store", "bob", b.prekey(2), "hi", "")
	b.commit()
	return b, [][]byte{nil, {1}, bundle, p, q}
}

// P21.1: ErrHandle goes ahead of everything.
func TestNil(t *testing.T) {
	_, packets := aStore(t)
	areRefused(t, "nil", nil, append(rightNames(), wrongNames()...), packets, 3, 3)
}

// P21.1: a transaction that is done, given up, or met a disk that gave up: ErrDone ahead of everything, beside an open one too, which goes on.
func TestDone(t *testing.T) {
	b, packets := aStore(t)
	names := append(rightNames(), wrongNames()...)
	first := b.x
	b.abort()
	areRefused(t, "given up", first, names, packets, 121, 121)
	second := b.x
	b.commit()
	areRefused(t, "done", second, names, packets, 121, 121)
	third := b.x
	b.sends("a change", "alice", "hi", "")
	b.commit()
	areRefused(t, "done with a change", third, names, packets, 121, 121)
	areRefused(t, "given up long ago", first, names, packets, 121, 121)
	b.isSeen("beside the open one")
	b.take(1, one())
	last := b.x
	isCode(t, "Arm", b.d.Arm(1, api.Loss{Torn: -1}), 0)
	isCode(t, "Commit", api.Code(last.Commit()), 80)
	areRefused(t, "the disk has given up, and the limits are missing", last, names, packets, 121, 121)
	isCode(t, "Up", b.d.Up(), 0)
	b.reopen()
	areRefused(t, "of a store that was ended", last, names, packets, 121, 121)
	b.isSeen("opened anew")
}

// P21.1: a transaction whose Commit had no room is not open either. No call asks for room: that is Commit's.
func TestDoneFull(t *testing.T) {
	a := laidOut(t, 9, ground(wide(), draw(1))...)
	b := client(t, 2, wide())
	a.who = 1
	text := strings.Repeat("x", 512)
	a.initiates("full", "bob", b.prekey(1), text, "")
	a.sends("full", "bob", text, "")
	isCode(t, "Commit", api.Code(a.x.Commit()), 120)
	areRefused(t, "full", a.x, rightNames(), [][]byte{nil}, 121, 121)
	if !sameList(a.s.All(), a.base) {
		t.Errorf("P21.1: the records are %s", told(a.s.All()))
	}
}

// P21.1: a wrong name goes ahead of all but that, the limits' record too; Peers takes none.
func TestWrongNames(t *testing.T) {
	b, packets := aStore(t)
	for _, peer := range wrongNames() {
		for _, packet := range packets {
			for i, e := range all(b.x, peer, packet, nil, nil) {
				if i < 6 {
					isCode(t, fmt.Sprintf("P21.1: %s of %d bytes", callName(i), len(peer)), e, 212)
				}
			}
		}
	}
	b.isSeen("wrong names")
	b.take(1, one())
	areRefused(t, "wrong names, no limits", b.x, wrongNames(), packets, 212, 123)
	b.isSeen("wrong names, no limits")
}

// P21.1: limits that are missing, or that make no sense, go ahead of all else.
func TestWrongLimits(t *testing.T) {
	b, packets := aStore(t)
	right := wordsLimitsBytes(wide())
	wrong := map[string][]byte{"empty": {}, "13 bytes": right[:13], "15 bytes": joined(right, []byte{0}), "zeros": zeros(14), "ones": bytes.Repeat([]byte{0xff}, 14), "900 bytes": zeros(900)}
	for i, l := range []api.Limits{
		{Peers: 0, Prekeys: 1, Outbox: 1, Counter: 1}, {Peers: 17, Prekeys: 1, Outbox: 1, Counter: 1}, {Peers: 1, Prekeys: 0, Outbox: 1, Counter: 1}, {Peers: 1, Prekeys: 65, Outbox: 1, Counter: 1},
		{Peers: 1, Prekeys: 1, Skip: 65, Outbox: 1, Counter: 1}, {Peers: 1, Prekeys: 1, Skips: 257, Outbox: 1, Counter: 1}, {Peers: 1, Prekeys: 1, Outbox: 0, Counter: 1}, {Peers: 1, Prekeys: 1, Outbox: 65, Counter: 1}, {Peers: 1, Prekeys: 1, Outbox: 1},
	} {
		wrong[fmt.Sprint("out of bounds ", i)] = wordsLimitsBytes(l)
	}
	for what, value := range wrong {
		b.lay(rec(1, one(), value))
		areRefused(t, "limits: "+what, b.x, rightNames(), packets, 123, 123)
		b.isSeen("limits: " + what)
		b.abort()
	}
	b.take(1, one())
	areRefused(t, "no limits", b.x, rightNames(), packets, 123, 123)
	b.isSeen("no limits")
	b.lay(rec(1, []byte{1}, right), rec(1, []byte{0, 0}, right))
	areRefused(t, "limits under another key", b.x, rightNames(), packets, 123, 123)
	b.isSeen("limits under another key")
}

// No call of this layer ends a transaction: what it has done is there behind Commit, and not behind Abort.
func TestNeitherCommitNorAbort(t *testing.T) {
	a, b := client(t, 1, someLimits(), others()[:8]...), client(t, 2, someLimits())
	bundle := b.prekey(1)
	b.commit()
	a.initiates("given up", "bob", bundle, "hi", "")
	a.abort()
	if names, e := a.peers("given up"); e != 0 || len(names) != 0 {
		t.Errorf("P21.4: given up, and %q are there", names)
	}
	p := a.initiates("for good", "bob", bundle, "hi", "")
	a.commit()
	q := a.sends("for good", "bob", "ho", "")
	a.commit()
	a.reopen()
	b.accepts("given up", "alice", q, "", "ho")
	b.abort()
	b.has("given up", 1, 0, 0, 0)
	b.accepts("for good", "alice", q, "", "ho")
	b.commit()
	b.reopen()
	b.receives("given up", "alice", p, "", "hi")
	b.abort()
	b.receives("for good", "alice", p, "", "hi")
	b.commit()
	b.reopen()
	b.refuses("for good", "alice", p, "", 161)
	b.forgets("given up", "alice", 0)
	b.abort()
	b.forgets("for good", "alice", 0)
	b.commit()
	b.reopen()
	b.forgets("for good", "alice", 211)
	want := laidOut(t, 801, append(ground(someLimits(), draw(2000)), rec(7, one(), four(1)))...)
	if !sameList(b.s.All(), want.s.All()) || !bytes.Equal(b.d.Image(), want.d.Image()) {
		t.Errorf("P21.13: something of the session is left: %s", told(b.s.All()))
	}
}

// P21.1: lists without bytes, nil or not, are one and the same.
func TestNoBytes(t *testing.T) {
	a, b := client(t, 1, wide()), client(t, 2, wide())
	bundle := b.prekey(1)
	once, turn := a.draw(), a.draw()
	p, e := session.Initiate(a.x, "bob", bundle, once, turn, nil, nil)
	isCode(t, "P21.4: nil", e, 0)
	n, q, f := session.Send(a.x, "bob", nil, nil)
	isCode(t, "P21.6: nil", f, 0)
	a.abort()
	if same, _ := a.initiate("no bytes", "bob", bundle, once, turn, []byte{}, []byte{}); !bytes.Equal(p, same) {
		t.Errorf("P21.4: nil gives another packet")
	}
	if m, same, _ := a.send("no bytes", "bob", []byte{}, []byte{}); m != n || !bytes.Equal(q, same) {
		t.Errorf("P21.6: nil gives another packet")
	}
	b.commit()
	for _, data := range [][]byte{nil, {}} {
		text, e := session.Accept(b.x, "alice", p, b.draw(), data)
		next, f := session.Receive(b.x, "alice", q, b.draw(), data)
		if e != 0 || f != 0 || len(text)+len(next) != 0 {
			t.Errorf("P21.5, P21.7: %q, %d; %q, %d", text, e, next, f)
		}
		b.abort()
	}
	for i, e := range all(b.x, "carol", nil, nil, nil) {
		isCode(t, "P21.1: no bytes: "+callName(i), e, [7]api.Errno{10, 10, 211, 211, 211, 211, 0}[i])
	}
}
