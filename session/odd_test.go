package session_test

import (
	"fmt"
	"strings"
	"testing"

	"lethe/api"
)

// areStates: Send, Receive and Tell refuse what stands in table 4; Initiate and Accept are refused as long as anything stands there; Forget does not look at it.
func (b *bench) areStates(what, peer string, bundle, packet []byte) {
	b.t.Helper()
	_, _, e := b.send(what, peer, nil, nil)
	isCode(b.t, "P21.3: Send: "+what, e, 180)
	b.refuses(what, peer, packet, "", 180)
	b.refuses(what+", no packet", peer, nil, "", 180)
	_, e = b.tell(what, peer)
	isCode(b.t, "P21.3: Tell: "+what, e, 180)
	_, e = b.initiate(what, peer, bundle, b.draw(), b.draw(), nil, nil)
	isCode(b.t, "P21.4: Initiate: "+what, e, 210)
	b.refusesAccept(what, peer, packet, "", 210)
	if names, e := b.peers(what); e != 0 || len(names) != 1 {
		b.t.Errorf("P21.9: %s: Peers answers %q, %d", what, names, e)
	}
	b.forgets(what, peer, 0)
	b.forgets(what+", again", peer, 211)
}

// P21.3: a state's record that is empty, cut anywhere, longer, or of other bytes.
func TestWrongStates(t *testing.T) {
	a, b := begun(t, someLimits())
	b.laySkipped("alice", 0, 9, draw(1))
	packet := a.sends("a packet", "bob", "next", "")
	bundle := a.prekey(1)
	b.commit()
	right, there := wordsGet(b.list, 4, wordsPeer("alice"))
	if !there || len(right) != 298 {
		t.Fatalf("a state of %d bytes", len(right))
	}
	wrong := map[string][]byte{
		"a byte more": joined(right, []byte{0}), "37 bytes more": joined(right, zeros(37)), "900 bytes": joined(right, zeros(602)),
		"version 0": joined([]byte{0}, right[1:]), "version 2": joined([]byte{2}, right[1:]), "zeros": zeros(len(right)), "text": []byte("text"),
		"a hello behind a turn of the peer": joined(right[:297], []byte{1}, steps(1, 36)), "no hello's byte": joined(right[:297], []byte{2}),
	}
	for n := range right {
		wrong[fmt.Sprintf("%d bytes", n)] = right[:n]
	}
	for what, value := range wrong {
		b.lay(rec(4, wordsPeer("alice"), value))
		b.areStates(what, "alice", bundle, packet)
		b.abort()
	}
}

// P21.3: each byte of a state in turn is another one: what may be a state is taken as it stands there.
func TestOtherStates(t *testing.T) {
	a, b := begun(t, someLimits())
	packet := a.sends("a packet", "bob", "next", "")
	b.commit()
	right, _ := wordsGet(b.list, 4, wordsPeer("alice"))
	taken := 0
	for at := range right {
		for _, c := range []byte{0, 1, 2, 0xff, right[at] ^ 1} {
			value := joined(right[:at], []byte{c}, right[at+1:])
			what := fmt.Sprintf("byte %d is %d", at, c)
			b.lay(rec(4, wordsPeer("alice"), value))
			b.tell(what, "alice")
			if _, e := b.receive(what, "alice", packet, draw(at), nil); e == 0 {
				taken++
			}
			b.send(what, "alice", []byte("text"), nil)
			b.abort()
		}
	}
	if taken < 100 {
		t.Errorf("P21.3: %d packets were taken alone", taken)
	}
}

// P21.3: records of table 5 whose keys are shorter or longer, or whose values have other than 32 bytes, wherever they stand: Receive and Tell refuse them, Send does not look, Forget takes them away, Accept leaves them.
func TestWrongSkippedKeys(t *testing.T) {
	a, b := begun(t, wide(), others()...)
	old := a.sends("old", "bob", "old", "")
	packet := a.sends("a packet", "bob", "next", "")
	c := client(t, 3, wide())
	first := c.initiates("a first packet", "bob", b.prekey(2), "hi", "")
	b.receives("the second", "alice", packet, "", "next")
	b.commit()
	odd := map[string]api.Record{}
	for n := 0; n <= 64-1-len("alice"); n++ {
		if n != 8 {
			odd[fmt.Sprintf("%d bytes 00 behind the name", n)] = rec(5, joined(wordsPeer("alice"), zeros(n)), zeros(32))
			odd[fmt.Sprintf("%d bytes ff behind the name", n)] = rec(5, joined(wordsPeer("alice"), []byte(strings.Repeat("\xff", n))), zeros(32))
		}
	}
	for _, n := range []int{0, 1, 8, 16, 30, 31, 33, 34, 64, 255, 256, 288, 900} {
		odd[fmt.Sprintf("a value of %d bytes at the place of a key", n)] = rec(5, joined(wordsPeer("alice"), zeros(7), []byte{1}), steps(1, n))
		odd[fmt.Sprintf("a value of %d bytes beside it", n)] = rec(5, joined(wordsPeer("alice"), zeros(7), []byte{9}), steps(1, n))
	}
	for what, r := range odd {
		b.lay(r)
		b.refuses(what, "alice", old, "", 180)
		b.refuses(what+", no packet", "alice", nil, "", 180)
		_, e := b.tell(what, "alice")
		isCode(t, "P21.3: Tell: "+what, e, 180)
		_, _, e = b.send(what, "alice", []byte("text"), nil)
		isCode(t, "P21.3: Send: "+what, e, 0)
		b.accepts(what+", another peer", "carol", first, "", "hi")
		b.forgets(what, "alice", 0)
		if left := wordsUnder(b.seen(), 5, wordsPeer("alice")); len(left) > 0 {
			t.Errorf("P21.8: %s: %s is left", what, told(left))
		}
		b.lay(r)
		b.forgets(what+", another peer", "carol", 0)
		b.prekeyBack(first)
		b.accepts(what+", the same peer", "alice", first, "", "hi")
		if value, there := wordsGet(b.seen(), 5, r.Key); !there || string(value) != string(r.Value) {
			t.Errorf("P21.5: %s: Accept has changed table 5", what)
		}
		_, e = b.tell(what, "alice")
		isCode(t, "P21.3: Tell: "+what+", behind Accept", e, 180)
		b.abort()
	}
}

// prekeyBack: the prekey that a first packet names is there again, as the store has it.
func (b *bench) prekeyBack(packet []byte) {
	b.t.Helper()
	p, _ := wordsUnpack(packet)
	value, there := wordsGet(b.base, 3, four(p.Hello.Prekey))
	if !there {
		b.t.Fatalf("no prekey %d", p.Hello.Prekey)
	}
	b.lay(rec(3, four(p.Hello.Prekey), value))
}

// P21.5: what stands in table 5 from before is not looked at, however right it is; a key that Accept puts takes the place of what is there.
func TestAcceptBesideSkippedKeys(t *testing.T) {
	a, b := client(t, 1, someLimits()), client(t, 2, someLimits())
	p0 := a.initiates("the first", "bob", b.prekey(1), "zero", "")
	p1 := a.sends("the second", "bob", "one", "")
	for n := range uint32(12) {
		b.laySkipped("alice", 0, n, draw(int(n)))
	}
	b.laySkipped("alice", 3, 3, draw(3))
	b.accepts("beside thirteen keys", "alice", p1, "", "one")
	s, e := b.tell("beside thirteen keys", "alice")
	if e != 0 || s.Skipped != 13 {
		t.Errorf("P21.5: %+v, %d", s, e)
	}
	b.receives("the first one's key was put", "alice", p0, "", "zero")
	if value, there := wordsGet(b.seen(), 5, wordsSkippedKey("alice", api.Skipped{N: 1})); !there || api.Key(value) != draw(1) {
		t.Errorf("P21.5: a key at the place of the packet itself has changed")
	}
}

// P21.3: skipped keys of any turns and numbers that stand there right are the session's, in order, whatever Skips is.
func TestStrangeSkippedKeys(t *testing.T) {
	lim := someLimits()
	lim.Skips = 0
	a, b := begun(t, lim)
	places := []uint32{0, 1, 2, 255, 256, 65536, 1 << 24, 1<<31 - 1, 1 << 31, 1<<32 - 2, 1<<32 - 1}
	count := 0
	for _, turn := range places[1:] {
		for _, n := range places {
			b.laySkipped("alice", turn, n, draw(count))
			count++
		}
	}
	s, e := b.tell("strange keys", "alice")
	if e != 0 || s.Skipped != count {
		t.Errorf("P21.10: %+v, %d; want %d", s, e, count)
	}
	packet := a.sends("in order", "bob", "next", "")
	b.receives("no new key", "alice", packet, "", "next")
	a.take(6, wordsMailKey("bob", 0))
	a.sends("lost", "bob", "lost", "")
	a.take(6, wordsMailKey("bob", 1))
	b.refuses("a new key", "alice", a.sends("behind it", "bob", "later", ""), "", 150)
	s, e = b.tell("strange keys", "alice")
	if e != 0 || s.Skipped != count {
		t.Errorf("P21.10: %+v, %d; want %d", s, e, count)
	}
}

// P21.7: a skipped key that is laid at an old place, of any turn and number, opens its message, and it alone is gone.
func TestLaidSkippedKey(t *testing.T) {
	_, b := begun(t, wide(), others()...)
	s := b.state("alice")
	s.Turns, s.Own = 1<<32-1, 1<<32-1
	b.layState("alice", s)
	var places []api.Skipped
	for _, turn := range []uint32{0, 2, 255, 256, 65536, 1 << 24, 0x01020304, 1 << 31, 1<<32 - 3} {
		for _, n := range []uint32{0, 1, 3 * 256, 0x05060708, 1<<24 + 1, 1 << 31, 1<<32 - 1} {
			x := api.Skipped{Turn: turn, N: n, Key: draw(len(places))}
			places = append(places, x)
			b.laySkipped("alice", turn, n, x.Key)
		}
	}
	for i, x := range places {
		what := fmt.Sprintf("turn %d, number %d", x.Turn, x.N)
		h := api.Header{Sid: s.Sid, Turn: x.Turn, Key: draw(77), Prev: 9, N: x.N}
		p := wordsPacket(api.Packet{Kind: 2, Header: h, Body: wordsSeal(x.Key, wordsSealData(s, h, []byte("d")), []byte(what))})
		b.refuses(what+", other data", "alice", p, "e", 50)
		b.receives(what, "alice", p, "d", what)
		b.refuses(what+", again", "alice", p, "d", 161)
		if left := wordsUnder(b.seen(), 5, wordsPeer("alice")); len(left) != len(places)-1-i {
			t.Errorf("P21.7: %s: %s is left", what, told(left))
		}
		if b.state("alice") != s {
			t.Errorf("P21.7: %s: the state is another one", what)
		}
	}
}
