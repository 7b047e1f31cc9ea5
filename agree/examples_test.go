package agree_test

import (
	"encoding/hex"
	"testing"

	"lethe/agree"
	"lethe/api"
	"lethe/header"
	"lethe/ratchet"
)

// The words of these tests make the chapter's example too.
func TestWordsMakeTheExample(t *testing.T) {
	secret, sid := wordsDerived(filled(1), filled(2), filled(3))
	if hex.EncodeToString(secret[:]) != "ad2209adaffa218aba20545fc93c09b5a6bb9b611de258172af86a755e303d40" || hex.EncodeToString(sid[:]) != "832a911a27b3d65646f9641fdb4f9832" {
		t.Errorf("P17.2: %x, %x", secret, sid)
	}
}

// P17.3, P17.4: the chapter's table.
func TestChapterTable(t *testing.T) {
	c := someCast()
	refusedStart(t, "Prekey 0 and a Key of zeros", api.ErrBundle, c.a, c.e, api.Offer{Identity: c.b.Pub})
	refusedStart(t, "Prekey 1 and a Key of zeros", api.ErrPoint, c.a, c.e, api.Offer{Identity: c.b.Pub, Prekey: 1})
	refusedMeet(t, "Prekey 1 and an Identity of zeros", api.ErrPoint, c.b, c.p, api.Hello{Once: c.e.Pub, Prekey: 1})
	if api.ErrPoint != 70 || api.ErrBundle != 170 {
		t.Errorf("errors: ErrPoint %d, ErrBundle %d", api.ErrPoint, api.ErrBundle)
	}
}

// firstPacket: P0 of DOC.md's examples of the whole.
const firstPacket = "0101422c8e7a6227d7bca1350b3e2bb7279f7897b87bb6854b783c60e80311ae30790f524bef7e12258fd9eefcd9e468b21e" +
	"543d90cc4a54b347f48cc5969febf43200000001bf3412d4e13c430e952c48438d6fa11d0000000087558542bbbfff0f9390" +
	"2ffa8434b44235daa830ccffb1a6b5300b3cda701d05000000000000000000221a3082d11b525935c463d82725c20b93a1cd" +
	"a48a74d126704924eaf002a0df674491"

const bundle = "01038d20f8c7bbfb9af3da4ef532ed44efc68ce642bc5d0c5cb1d7b91b96c74edf0200000001ae8b046f96cb5841c86fd8b63d3d6265b209dfa0df66bdaa42b7a9fc59779523"

func unhex(t *testing.T, text string) []byte {
	t.Helper()
	b, err := hex.DecodeString(text)
	if err != nil {
		t.Fatal(err)
	}
	return b
}

// openingPair: the pair of DOC.md's draw Dk.
func openingPair(k byte) api.Pair { return wordsPair(api.Key{0: 8 * k, 31: 64}) }

// A first secret: of DOC.md's opening, its bundle makes its packet P0, byte for byte.
func TestFirstPacketIsMade(t *testing.T) {
	offer, e := header.ReadOffer(unhex(t, bundle))
	if e != api.OK {
		t.Fatalf("ReadOffer: error %d", e)
	}
	secret, sid, bind, hello, e := agree.Start(openingPair(1), openingPair(4), offer)
	if e != api.OK {
		t.Fatalf("Start: error %d", e)
	}
	s, e := ratchet.Begin(secret, sid, bind, openingPair(5), offer.Key)
	if e != api.OK {
		t.Fatalf("Begin: error %d", e)
	}
	_, h, body, e := ratchet.Send(s, 9, []byte("hi"), nil)
	if e != api.OK {
		t.Fatalf("Send: error %d", e)
	}
	b, e := header.Pack(api.Packet{Kind: api.First, Hello: hello, Header: h, Body: body})
	if got := hex.EncodeToString(b); e != api.OK || got != firstPacket {
		t.Errorf("P17.3: error %d, packet %s\nwant %s", e, got, firstPacket)
	}
}

// A first secret: the other side opens DOC.md's packet P0 with its own private keys.
func TestFirstPacketIsOpened(t *testing.T) {
	p, e := header.Unpack(unhex(t, firstPacket))
	if e != api.OK {
		t.Fatalf("Unpack: error %d", e)
	}
	prekey := openingPair(3)
	secret, sid, bind, e := agree.Meet(openingPair(2), prekey, p.Hello)
	if e != api.OK || sid != p.Header.Sid {
		t.Fatalf("P17.4: error %d, sid %x, want %x", e, sid, p.Header.Sid)
	}
	s := ratchet.Answer(secret, sid, bind, prekey)
	_, _, text, e := ratchet.Receive(s, nil, api.Limits{Skip: 2, Skips: 4, Counter: 9}, p.Header, p.Body, nil, api.Key{0: 48, 31: 64})
	if e != api.OK || string(text) != "hi" {
		t.Errorf("P17.4: error %d, text %q", e, text)
	}
}
