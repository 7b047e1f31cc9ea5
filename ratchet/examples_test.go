package ratchet_test

import (
	"bytes"
	"encoding/hex"
	"testing"

	"lethe/api"
	"lethe/header"
	"lethe/ratchet"
)

// P16.1: the chapter's table, line by line, and the lines below it.
func TestChapterExamples(t *testing.T) {
	lim := api.Limits{Skip: 1, Skips: 2, Counter: 5}
	a, b := begun(t, 1)
	a0, a1, a2 := a.sends(t, 5, "a0", "d"), a.sends(t, 5, "a1", "d"), a.sends(t, 5, "a2", "d")
	b.refuses(t, "a2", api.ErrSkip, a2, lim)
	b.gets(t, "a1", a1, lim, key(50))
	b.has(t, "behind a1", 1, 1, 2, [2]uint32{0, 0})
	b.refuses(t, "a1 again", api.ErrOld, a1, lim)
	other := a2
	other.data = []byte("e")
	b.refuses(t, "a2 with other data", api.ErrTag, other, lim)
	b.gets(t, "a2", a2, lim, key(51))
	b.has(t, "behind a2", 1, 1, 3, [2]uint32{0, 0})
	b.gets(t, "a0", a0, lim, key(52))
	b.has(t, "behind a0", 1, 1, 3)
	b.refuses(t, "a0 again", api.ErrOld, a0, lim)

	b0 := b.sends(t, 5, "b0", "")
	if b0.h.Turn != 0 || b0.h.N != 0 {
		t.Errorf("P16.1: b0 is %d.%d", b0.h.Turn, b0.h.N)
	}
	a.gets(t, "b0", b0, lim, key(53))
	a.has(t, "behind b0", 2, 1, 1)
	a.sends(t, 5, "c0", "d")
	c1 := a.sends(t, 5, "c1", "d")
	if c1.h.Turn != 1 || c1.h.Prev != 3 || c1.h.N != 1 {
		t.Errorf("P16.1: c1 is %d.%d, Prev %d", c1.h.Turn, c1.h.N, c1.h.Prev)
	}
	b.gets(t, "c1", c1, lim, key(54))
	b.has(t, "behind c1", 2, 2, 2, [2]uint32{1, 0})
	like := func(what string, code api.Errno, change func(h *api.Header)) {
		t.Helper()
		m := c1
		change(&m.h)
		b.refuses(t, what, code, m, lim)
	}
	like("turn 3", api.ErrTurn, func(h *api.Header) { h.Turn = 3 })
	like("c1 again", api.ErrOld, func(h *api.Header) {})
	like("number 2, another key", api.ErrHeader, func(h *api.Header) { h.N = 2; h.Key[0] ^= 1 })
	like("number 5", api.ErrCounter, func(h *api.Header) { h.N = 5 })
}

func unhex(t *testing.T, text string) []byte {
	t.Helper()
	b, err := hex.DecodeString(text)
	if err != nil {
		t.Fatal(err)
	}
	return b
}

// firstPacket: P0 of DOC.md's examples of the whole.
const firstPacket = "0101422c8e7a6227d7bca1350b3e2bb7279f7897b87bb6854b783c60e80311ae30790f524bef7e12258fd9eefcd9e468b21e" +
	"543d90cc4a54b347f48cc5969febf43200000001bf3412d4e13c430e952c48438d6fa11d0000000087558542bbbfff0f9390" +
	"2ffa8434b44235daa830ccffb1a6b5300b3cda701d05000000000000000000221a3082d11b525935c463d82725c20b93a1cd" +
	"a48a74d126704924eaf002a0df674491"

// The formats: the first packet of DOC.md's examples, of its draws, and the other side that takes it.
func TestFirstPacketOfTheWhole(t *testing.T) {
	drawn := func(k byte) api.Pair { return wordsPair(api.Key{0: 8 * k, 31: 64}) }
	one, two, prekey, once, turn := drawn(1), drawn(2), drawn(3), drawn(4), drawn(5)
	x, _ := wordsShared(one.Priv, prekey.Pub)
	y, _ := wordsShared(once.Priv, two.Pub)
	z, _ := wordsShared(once.Priv, prekey.Pub)
	secrets := bytes.Join([][]byte{bytes.Repeat([]byte{0xff}, 32), x[:], y[:], z[:]}, nil)
	both := derive(make([]byte, 32), secrets, "lethe first", 48)
	secret, sid := api.Key(both[:32]), api.Sid(both[32:])
	bind := [64]byte(append(one.Pub[:], two.Pub[:]...))

	s, e := ratchet.Begin(secret, sid, bind, turn, prekey.Pub)
	if e != api.OK {
		t.Fatalf("Begin: error %d", e)
	}
	s.Hello = api.Hello{Identity: one.Pub, Once: once.Pub, Prekey: 1}
	_, h, body, e := ratchet.Send(s, 9, []byte("hi"), nil)
	if e != api.OK {
		t.Fatalf("Send: error %d", e)
	}
	b, e := header.Pack(api.Packet{Kind: api.First, Hello: s.Hello, Header: h, Body: body})
	if want := unhex(t, firstPacket); e != api.OK || !bytes.Equal(b, want) {
		t.Errorf("the formats: error %d, packet %x\nwant %x", e, b, want)
	}
	p, e := header.Unpack(unhex(t, firstPacket))
	if e != api.OK {
		t.Fatalf("Unpack: error %d", e)
	}
	answered := ratchet.Answer(secret, sid, bind, prekey)
	_, list, text, e := ratchet.Receive(answered, nil, api.Limits{Skip: 2, Skips: 4, Counter: 9}, p.Header, p.Body, nil, api.Key{0: 48, 31: 64})
	if e != api.OK || string(text) != "hi" || len(list) != 0 {
		t.Errorf("the protocol: error %d, text %q, %d skipped keys", e, text, len(list))
	}
}
