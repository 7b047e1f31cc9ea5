package session_test

import (
	"fmt"
	"testing"

	"lethe/api"
)

// P21.4, P21.5: with fewer sessions than Peers one more is begun or accepted; with as many, or more, none is. What counts are the records of table 4, whatever stands in them.
func TestRoomForPeers(t *testing.T) {
	a := client(t, 1, wide())
	for _, peers := range []int{1, 2, 3, 15, 16} {
		lim := wide()
		lim.Peers = peers
		b := client(t, 2, lim)
		bundle := client(t, 3, wide()).prekey(1)
		packet := a.initiates("a packet", "bob", b.prekey(1), "hi", "")
		a.abort()
		b.commit()
		for there := 0; there <= peers+2; there++ {
			what := fmt.Sprintf("Peers %d, %d are there", peers, there)
			want := api.Errno(0)
			if there >= peers {
				want = 213
			}
			for n := range there {
				b.lay([]api.Record{rec(4, wordsPeer(fmt.Sprint("peer ", n)), nil), rec(4, []byte{byte(n), 0xee}, []byte("any"))}[n%2])
			}
			list := b.list
			_, e := b.initiate(what, "carol", bundle, b.draw(), b.draw(), nil, nil)
			isCode(t, "P21.4: "+what, e, want)
			if e == 0 {
				b.forgets(what, "carol", 0)
			}
			_, e = b.accept(what, "alice", packet, b.draw(), nil)
			isCode(t, "P21.5: "+what, e, want)
			if e != 0 && !sameList(b.list, list) {
				t.Errorf("P21.1: %s: refused, and the records have changed", what)
			}
			if there > 0 {
				_, e = b.initiate(what, "peer 0", bundle, b.draw(), b.draw(), nil, nil)
				isCode(t, "P21.4: a session is there: "+what, e, 210)
				b.refusesAccept("a session is there: "+what, "peer 0", packet, "", 210)
			}
			b.abort()
		}
	}
}

// P21.4, P21.8: behind Forget there is room again, under any name.
func TestRoomBehindForget(t *testing.T) {
	a, b := client(t, 1, someLimits()), client(t, 2, wide())
	for n := range uint32(6) {
		a.initiates("one", "one", b.prekey(3*n+1), "x", "")
		a.initiates("two", "two", b.prekey(3*n+2), "y", "")
		_, e := a.initiate("three", "three", b.prekey(3*n+3), a.draw(), a.draw(), nil, nil)
		isCode(t, "P21.4: three", e, 213)
		a.forgets("one", "one", 0)
		a.initiates("three", "three", b.prekey(3*n+3), "z", "")
		a.forgets("two", "two", 0)
		a.forgets("three", "three", 0)
	}
}

// P21.4: a bundle that is cut, too long, of another version or kind: refused, and nothing is there behind it.
func TestWrongBundles(t *testing.T) {
	a, b := client(t, 1, wide(), others()...), client(t, 2, wide())
	right := b.prekey(1)
	is := func(what string, bundle []byte, want api.Errno) {
		t.Helper()
		_, e := a.initiate(what, "bob", bundle, draw(7), draw(8), []byte("text"), nil)
		isCode(t, "P21.4: "+what, e, want)
	}
	for n := range right {
		is(fmt.Sprintf("%d bytes", n), right[:n], 10)
	}
	for _, n := range []int{1, 2, 100, 1000} {
		is(fmt.Sprintf("%d bytes more", n), joined(right, zeros(n)), 11)
	}
	for c := range 256 {
		if c != 1 {
			is(fmt.Sprintf("version %d", c), joined([]byte{byte(c)}, right[1:]), 140)
		}
		if c != 3 {
			is(fmt.Sprintf("kind %d", c), joined(right[:1], []byte{byte(c)}, right[2:]), 103)
		}
	}
	is("no identity", joined(right[:2], zeros(32), right[34:]), 170)
	is("prekey 0", joined(right[:34], zeros(4), right[38:]), 170)
	is("no key", joined(right[:38], zeros(32)), 170)
	for i, k := range lowKeys() {
		if k != (api.Key{}) {
			is(fmt.Sprintf("low identity %d", i), joined(right[:2], k[:], right[34:]), 70)
			is(fmt.Sprintf("low key %d", i), joined(right[:38], k[:]), 70)
		}
	}
	is("the right one", right, 0)
}

// P21.4: any number of a prekey, and any keys that are points, are taken as they are: whether there is such a prekey is the other's business.
func TestStrangeBundles(t *testing.T) {
	a := client(t, 1, wide())
	for i, number := range []uint32{1, 2, 255, 256, 65536, 1 << 31, 1<<32 - 1} {
		offer := api.Offer{Identity: wordsPair(draw(i)).Pub, Prekey: number, Key: wordsPair(draw(i + 50)).Pub}
		offer.Key[31] |= 0x80
		peer := fmt.Sprint("peer ", i)
		p, e := wordsUnpack(a.initiates("a strange bundle", peer, wordsOffer(offer), "hi", ""))
		if e != 0 || p.Kind != 1 || p.Hello.Prekey != number || p.Hello.Identity != a.own().Pub {
			t.Errorf("P21.4: %+v, %d", p, e)
		}
		if s := a.state(peer); s.Hello != p.Hello || s.Peer != offer.Key || s.Own != 1 || s.Sent != 1 || s.Serial != 1 {
			t.Errorf("P21.4: %+v", s)
		}
	}
}

// P21.4: the identity as it stands in its record, whether its halves belong together or not; one whose public half is zero can't be told from none: its state is refused.
func TestStrangeIdentities(t *testing.T) {
	a, b := client(t, 1, wide()), client(t, 2, wide())
	bundle := b.prekey(1)
	low := lowKeys()[0]
	for i, c := range []struct {
		value []byte
		want  api.Errno
	}{
		{joined(steps(1, 32), steps(2, 32)), 0}, {zeros(64), 180}, {joined(zeros(32), steps(9, 32)), 0}, {joined(steps(1, 32), zeros(32)), 180}, {joined(steps(1, 32), low[:]), 0}, {joined(steps(1, 32), zeros(31), []byte{1}), 0},
		{nil, 123}, {zeros(1), 123}, {zeros(32), 123}, {zeros(63), 123}, {zeros(65), 123}, {zeros(128), 123},
	} {
		a.lay(rec(2, one(), c.value))
		_, e := a.initiate("a strange identity", "bob", bundle, a.draw(), a.draw(), []byte("text"), nil)
		isCode(t, fmt.Sprintf("P21.4: identity %d", i), e, c.want)
		if e == 0 {
			a.tell("a strange identity", "bob")
			a.sends("a strange identity", "bob", "on", "")
		}
		a.abort()
	}
}
