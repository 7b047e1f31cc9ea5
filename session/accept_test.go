package session_test

import (
	"fmt"
	"testing"

	"lethe/api"
)

// P21.5: packets that are cut, too long, of another version or kind: refused; the prekey is still there, and the packet is taken then.
func TestWrongFirstPackets(t *testing.T) {
	a, b := client(t, 1, wide()), client(t, 2, wide(), others()...)
	right := a.initiates("the packet", "bob", b.prekey(1), "text", "d")
	b.commit()
	is := func(what string, packet []byte, want api.Errno) {
		t.Helper()
		b.refusesAccept(what, "alice", packet, "d", want)
	}
	for n := range right {
		is(fmt.Sprintf("%d bytes", n), right[:n], 10)
	}
	for _, n := range []int{1, 2, 100, 1000} {
		is(fmt.Sprintf("%d bytes more", n), joined(right, zeros(n)), 11)
	}
	for c := range 256 {
		if c != 1 {
			is(fmt.Sprintf("version %d", c), joined([]byte{byte(c)}, right[1:]), 140)
		}
		if c != 1 && c != 2 {
			is(fmt.Sprintf("kind %d", c), joined(right[:1], []byte{byte(c)}, right[2:]), 103)
		}
	}
	is("a bundle", b.prekey(2), 103)
	is("the same packet as a plain one", joined([]byte{1, 2}, right[70:]), 141)
	is("no identity", joined(right[:2], zeros(32), right[34:]), 141)
	is("prekey 0", joined(right[:66], zeros(4), right[70:]), 141)
	for i, k := range lowKeys() {
		if k != (api.Key{}) {
			is(fmt.Sprintf("low identity %d", i), joined(right[:2], k[:], right[34:]), 70)
		}
		is(fmt.Sprintf("low once %d", i), joined(right[:34], k[:], right[66:]), 70)
		is(fmt.Sprintf("low turn key %d", i), joined(right[:90], k[:], right[122:]), 70)
	}
	b.accepts("the right one", "alice", right, "d", "text")
}

// P21.5: each bit of a first packet turned: it is refused, and costs nothing. One bit counts for nothing: the highest of the once key, of which chapter 7 makes the same secret, and which nothing binds.
func TestAlteredFirstPackets(t *testing.T) {
	a, b := client(t, 1, someLimits()), client(t, 2, someLimits())
	right := a.initiates("the packet", "bob", b.prekey(1), "x", "d")
	b.commit()
	for bit := range 8 * len(right) {
		altered := joined(right)
		altered[bit/8] ^= 1 << (bit % 8)
		what := fmt.Sprintf("bit %d turned", bit)
		text, e := b.accept(what, "alice", altered, draw(9), []byte("d"))
		if free := bit == 8*65+7; (e == 0) != free {
			t.Errorf("P21.5: %s: %q, error %d", what, text, e)
		}
		if e != 0 {
			b.has("P21.5: "+what, 1, 0, 0, 0)
		}
		b.abort()
	}
	for _, data := range []string{"", "e", "D", "dd", "d\x00"} {
		b.refusesAccept("other data", "alice", right, data, 50)
	}
	b.accepts("the right one", "alice", right, "d", "x")
}

// P21.5, P21.12: what is refused leaves the prekey; what is taken takes it away, and no first packet that names it is accepted any more, under any name, whatever it holds.
func TestPrekeyServesOnce(t *testing.T) {
	a, b := client(t, 1, wide()), client(t, 2, wide())
	c := client(t, 3, wide())
	bundle, other := b.prekey(1), b.prekey(2)
	p := a.initiates("a's", "bob", bundle, "of a", "")
	again := a.sends("a's", "bob", "of a too", "")
	q := c.initiates("c's", "bob", bundle, "of c", "")
	r := c.initiates("c's other", "robert", other, "of c too", "")
	b.refusesAccept("other data", "alice", p, "x", 50)
	b.refusesAccept("other data", "carol", q, "x", 50)
	b.has("P21.5: refused", 2, 0, 0, 0)
	b.accepts("c's", "carol", q, "", "of c")
	b.has("P21.12: taken", 1, 1, 0, 0)
	for _, name := range []string{"alice", "dora", "c"} {
		b.refusesAccept("its prekey is gone", name, p, "", 190)
		b.refusesAccept("its prekey is gone", name, again, "", 190)
		b.refusesAccept("taken, under another name", name, q, "", 190)
	}
	b.refusesAccept("a session is there", "carol", q, "", 210)
	b.refuses("taken", "carol", q, "", 161)
	b.refuses("of another session", "carol", p, "", 160)
	b.refuses("of another session", "carol", r, "", 160)
	b.accepts("the other prekey", "c", r, "", "of c too")
	b.has("P21.12: both taken", 0, 2, 0, 0)
	b.forgets("forgotten", "carol", 0)
	b.refusesAccept("forgotten", "carol", q, "", 190)
	b.refusesAccept("forgotten", "carol", p, "", 190)
}

// P21.5: a packet that came late: as many keys are skipped as Skip and Skips take, and one more is refused.
func TestAcceptLate(t *testing.T) {
	for _, c := range []struct{ skip, skips, most int }{{0, 0, 0}, {0, 5, 0}, {5, 0, 0}, {1, 1, 1}, {4, 8, 4}, {8, 4, 4}, {64, 256, 64}} {
		lim := wide()
		lim.Skip, lim.Skips = c.skip, c.skips
		a, b := client(t, 1, wide()), client(t, 2, lim)
		list := [][]byte{a.initiates("late", "bob", b.prekey(1), "0", "")}
		for n := 1; n <= c.most+1; n++ {
			if n > 60 {
				a.take(6, wordsMailKey("bob", uint32(n-60)))
			}
			list = append(list, a.sends("late", "bob", fmt.Sprint(n), ""))
		}
		want := api.Errno(164)
		if c.skip > c.skips {
			want = 150
		}
		b.refusesAccept(fmt.Sprintf("Skip %d, Skips %d: one too many", c.skip, c.skips), "alice", list[c.most+1], "", want)
		b.has("P21.5: refused", 1, 0, 0, 0)
		b.accepts(fmt.Sprintf("Skip %d, Skips %d: just as many", c.skip, c.skips), "alice", list[c.most], "", fmt.Sprint(c.most))
		b.has("P21.5: taken", 0, 1, c.most, 0)
		for n := c.most - 1; n >= 0; n-- {
			b.receives("the late ones", "alice", list[n], "", fmt.Sprint(n))
			b.has("P21.7: the late ones", 0, 1, n, 0)
		}
		b.receives("the last one", "alice", list[c.most+1], "", fmt.Sprint(c.most+1))
	}
}

// P21.5: the state that is put, field by field.
func TestAcceptedState(t *testing.T) {
	a, b := client(t, 1, someLimits()), client(t, 2, someLimits())
	bundle := b.prekey(1)
	a.initiates("the first", "bob", bundle, "zero", "")
	p := a.sends("the second", "bob", "one", "")
	text, e := b.accept("the second", "alice", p, draw(77), nil)
	if e != 0 || string(text) != "one" {
		t.Fatalf("P21.5: %q, %d", text, e)
	}
	s, of := b.state("alice"), a.state("bob")
	if s.Sid != of.Sid || s.Bind != of.Bind || s.Pair != wordsPair(draw(77)) || s.Peer != of.Pair.Pub || s.Own != 1 || s.Turns != 1 || s.Sent != 0 || s.Prev != 0 || s.Serial != 0 || s.Got != 2 || s.Hello != (api.Hello{}) || s.RecvKey != of.SendKey {
		t.Errorf("P21.5: %+v", s)
	}
	key, _ := wordsGet(b.seen(), 5, joined(wordsPeer("alice"), zeros(8)))
	if h, f := wordsUnpack(a.mail("bob", 0)); f != 0 || len(key) != 32 {
		t.Errorf("P21.5: no skipped key")
	} else if text, f := wordsOpen(api.Key(key), wordsSealData(s, h.Header, nil), h.Body); f != 0 || string(text) != "zero" {
		t.Errorf("P21.5: the skipped key opens %q, %d", text, f)
	}
}

// mail: an unacknowledged packet.
func (b *bench) mail(peer string, serial uint32) []byte {
	b.t.Helper()
	packet, there := wordsGet(b.seen(), 6, wordsMailKey(peer, serial))
	if !there {
		b.t.Errorf("no packet %d of %q", serial, peer)
	}
	return packet
}

// P21.5: prekeys of any number, and a record of other than 64 bytes.
func TestStrangePrekeys(t *testing.T) {
	a, b := client(t, 1, wide()), client(t, 2, wide())
	for i, number := range []uint32{1, 255, 256, 65535, 1 << 24, 1<<32 - 1} {
		peer := fmt.Sprint("peer ", i)
		p := a.initiates("a number", peer, b.prekey(number), "hi", "")
		b.commit()
		for _, n := range []int{0, 1, 32, 63, 65, 128} {
			b.lay(rec(3, four(number), zeros(n)))
			b.refusesAccept(fmt.Sprintf("a prekey of %d bytes", n), peer, p, "", 123)
			b.abort()
		}
		b.lay(rec(3, joined(four(number), []byte{0}), zeros(64)))
		b.accepts("a number", peer, p, "", "hi")
		b.refusesAccept("used", "other", p, "", 190)
	}
}
