package session_test

import (
	"bytes"
	"fmt"
	"strings"
	"testing"

	"lethe/api"
)

// P21.6: a message's packet, its serial, the record in the outbox and the state behind it.
func TestSend(t *testing.T) {
	a, b := begun(t, someLimits())
	a.take(6, wordsMailKey("bob", 0))
	before := a.state("bob")
	serial, packet, e := a.send("the second", "bob", []byte("text"), []byte("data"))
	if e != 0 || serial != 1 {
		t.Fatalf("P21.6: error %d, serial %d", e, serial)
	}
	message, next := wordsChain(before.SendKey, 0)
	want := before
	want.SendKey, want.Sent, want.Serial = next, 2, 2
	if s := a.state("bob"); s != want {
		t.Errorf("P21.6: the state is %+v, want %+v", s, want)
	}
	if !bytes.Equal(a.mail("bob", 1), packet) {
		t.Errorf("P21.6: another packet is in the outbox")
	}
	p, e := wordsUnpack(packet)
	if e != 0 || p.Kind != 1 || p.Hello != before.Hello || p.Header != (api.Header{Sid: before.Sid, Key: before.Pair.Pub, N: 1}) {
		t.Errorf("P21.6: the packet is %+v, error %d", p, e)
	}
	if text, e := wordsOpen(message, wordsSealData(before, p.Header, []byte("data")), p.Body); e != 0 || string(text) != "text" {
		t.Errorf("P21.6: it opens to %q, error %d", text, e)
	}
	b.receives("the second", "alice", packet, "data", "text")
}

// P21.6: packets carry the hello until something of the peer has come, and none behind it.
func TestHelloGoesAlong(t *testing.T) {
	a, b := begun(t, wide())
	for n := range 5 {
		p, e := wordsUnpack(a.sends("nothing has come", "bob", fmt.Sprint(n), ""))
		if e != 0 || p.Kind != 1 || p.Hello.Prekey != 1 || p.Hello.Identity != a.own().Pub {
			t.Errorf("P21.6: packet %d: %+v, %d", n, p, e)
		}
	}
	q := b.sends("an answer", "alice", "answer", "")
	if q[1] != 2 {
		t.Errorf("P21.6: an answer of kind %d", q[1])
	}
	a.refuses("other data", "bob", q, "x", 50)
	if p := a.sends("what came was refused", "bob", "still", ""); p[1] != 1 {
		t.Errorf("P21.6: behind a refusal: kind %d", p[1])
	}
	a.receives("an answer", "bob", q, "", "answer")
	for range 3 {
		if p := a.sends("something has come", "bob", "now", ""); p[1] != 2 {
			t.Errorf("P21.6: kind %d", p[1])
		}
	}
}

// P21.6: texts and data of every length that is bounded, and one more.
func TestLengths(t *testing.T) {
	lim := wide()
	a, b := begun(t, lim)
	serial := uint32(1)
	for _, size := range []int{0, 1, 15, 16, 17, 255, 256, 511, 512} {
		for _, more := range []int{0, 1, 63, 64} {
			text, data := strings.Repeat("t", size), strings.Repeat("d", more)
			p := a.sends("a length", "bob", text, data)
			if len(p) != 2+68+60+2+32+size {
				t.Errorf("P21.6: a text of %d bytes: a packet of %d", size, len(p))
			}
			b.receives("a length", "alice", p, data, text)
			a.take(6, wordsMailKey("bob", serial))
			serial++
		}
	}
	for _, c := range [][2]int{{513, 0}, {0, 65}, {513, 65}, {600, 3}, {3, 600}, {1 << 16, 0}} {
		_, _, e := a.send("too long", "bob", zeros(c[0]), zeros(c[1]))
		isCode(t, fmt.Sprintf("P21.6: %d and %d bytes", c[0], c[1]), e, 5)
		_, e = a.initiate("too long", "carol", client(t, 3, lim).prekey(1), draw(1), draw(2), zeros(c[0]), zeros(c[1]))
		isCode(t, fmt.Sprintf("P21.4: %d and %d bytes", c[0], c[1]), e, 5)
	}
	p := a.sends("data", "bob", "t", "")
	b.refuses("data of 65 bytes", "alice", p, strings.Repeat("d", 65), 5)
}

// P21.6: as many unacknowledged packets as Outbox takes, and one more; behind an acknowledgement there is room again. Another peer's don't count.
func TestOutboxFull(t *testing.T) {
	for _, most := range []int{1, 2, 3, 64} {
		lim := wide()
		lim.Outbox = most
		a, b := client(t, 1, lim), client(t, 2, wide())
		a.initiates("another's", "bobby", b.prekey(2), "x", "")
		a.initiates("the first", "bob", b.prekey(1), "x", "")
		for range most - 1 {
			a.sends("room", "bob", "x", "")
		}
		for range 3 {
			before := a.state("bob")
			_, _, e := a.send("full", "bob", []byte("x"), nil)
			isCode(t, "P21.6: full", e, 200)
			if a.state("bob") != before {
				t.Errorf("P21.6: refused, and the state has changed")
			}
			a.take(6, wordsMailKey("bob", before.Serial-uint32(most)))
			serial, _, e := a.send("room again", "bob", []byte("x"), nil)
			if e != 0 || serial != before.Serial {
				t.Errorf("P21.6: room again: %d, serial %d", e, serial)
			}
		}
	}
}

// P21.4: packets that are left under the name from before count too: Initiate is refused as a Put of the outbox is.
func TestInitiateBesidePackets(t *testing.T) {
	a, b := client(t, 1, someLimits()), client(t, 2, someLimits())
	bundle := b.prekey(1)
	is := func(what string, want api.Errno, list ...api.Record) {
		t.Helper()
		a.lay(list...)
		_, e := a.initiate(what, "bob", bundle, draw(1), draw(2), nil, nil)
		isCode(t, "P21.4: "+what, e, want)
		a.abort()
	}
	is("one other packet", 0, rec(6, wordsMailKey("bob", 7), nil))
	is("two other packets", 200, rec(6, wordsMailKey("bob", 7), nil), rec(6, wordsMailKey("bob", 8), nil))
	is("serial 0", 151, rec(6, wordsMailKey("bob", 0), nil))
	is("serial 0 and another", 151, rec(6, wordsMailKey("bob", 0), nil), rec(6, wordsMailKey("bob", 9), nil))
	is("a wrong key", 180, rec(6, wordsPeer("bob"), nil))
	is("another's", 0, rec(6, wordsMailKey("bobb", 0), nil), rec(6, wordsPeer("bo"), nil))
	is("skipped keys, right and wrong", 0, rec(5, joined(wordsPeer("bob"), zeros(8)), zeros(32)), rec(5, wordsPeer("bob"), nil))
}

// P21.6: a counter at its end: of the turn's messages, and of all.
func TestCounterAtItsEnd(t *testing.T) {
	for _, counter := range []uint32{1, 2, 3, 9} {
		lim := wide()
		lim.Counter = counter
		a, b := client(t, 1, lim), client(t, 2, wide())
		list := [][]byte{a.initiates("the first", "bob", b.prekey(1), "x", "")}
		for n := uint32(1); n < counter; n++ {
			list = append(list, a.sends("below the end", "bob", "x", ""))
		}
		for range 2 {
			_, _, e := a.send("at the end", "bob", []byte("x"), nil)
			isCode(t, fmt.Sprintf("P21.6: Counter %d", counter), e, 130)
		}
		b.accepts("the last one", "alice", list[counter-1], "", "x")
	}
	a, _ := begun(t, wide())
	s := a.state("bob")
	s.Own, s.Turns, s.Hello = 2, 2, api.Hello{}
	for _, c := range []struct {
		sent, serial uint32
		want         api.Errno
	}{{1<<32 - 2, 1<<32 - 2, 0}, {0, 1<<32 - 2, 0}, {1<<32 - 1, 1<<32 - 1, 130}, {0, 1<<32 - 1, 130}, {7, 1<<32 - 1, 130}} {
		s.Sent, s.Serial, s.Prev = c.sent, c.serial, 0
		a.layState("bob", s)
		serial, _, e := a.send("the last numbers", "bob", nil, nil)
		isCode(t, fmt.Sprintf("P21.6: Sent %d, Serial %d", c.sent, c.serial), e, c.want)
		if e == 0 && serial != c.serial {
			t.Errorf("P21.6: serial %d, want %d", serial, c.serial)
		}
		a.take(6, wordsMailKey("bob", c.serial))
	}
}

// P21.6: one who was written to can send behind the first packet, and a state without an own turn can't.
func TestSendAheadOfATurn(t *testing.T) {
	_, b := begun(t, wide())
	if p := b.sends("behind the first packet", "alice", "yes", ""); p[1] != 2 {
		t.Errorf("P21.6: kind %d", p[1])
	}
	s := b.state("alice")
	for _, turns := range []uint32{0, 1} {
		b.layState("alice", api.State{Sid: s.Sid, Root: s.Root, Pair: s.Pair, Bind: s.Bind, Turns: turns})
		_, _, e := b.send("no own turn", "alice", nil, nil)
		isCode(t, "P21.6: no own turn", e, 165)
	}
}

// P21.6: a state's hello as it stands there: with prekey 0 no packet is made of it.
func TestStrangeHello(t *testing.T) {
	a, _ := begun(t, wide())
	s := a.state("bob")
	s.Hello.Prekey = 0
	a.layState("bob", s)
	_, _, e := a.send("prekey 0", "bob", nil, nil)
	isCode(t, "P21.6: prekey 0", e, 141)
	s.Hello.Prekey, s.Hello.Once = 1<<32-1, api.Key{}
	a.layState("bob", s)
	if p, e := wordsUnpack(a.sends("no once key", "bob", "x", "")); e != 0 || p.Hello != s.Hello {
		t.Errorf("P21.6: %+v, %d", p.Hello, e)
	}
	s = a.state("bob")
	s.Hello = api.Hello{}
	a.layState("bob", s)
	if p := a.sends("no hello", "bob", "x", ""); p[1] != 2 {
		t.Errorf("P21.6: kind %d", p[1])
	}
}
