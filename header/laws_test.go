package header_test

import (
	"bytes"
	"fmt"
	"math/rand"
	"testing"

	"lethe/api"
	"lethe/header"
)

// P14.7: a packet comes back from its bytes, and bytes come back from the packet that they hold.
func TestPacketsThereAndBack(t *testing.T) {
	r := rand.New(rand.NewSource(5))
	list := bothKinds()
	for len(list) < 3000 {
		list = append(list, drawnPacket(r))
	}
	for n, p := range list {
		b, e := header.Pack(p)
		if e != api.OK {
			continue
		}
		q, e := header.Unpack(b)
		if e != api.OK || !samePacket(p, q) {
			t.Fatalf("P14.7: packet %d comes back as %x, error %d, not as %x", n, q, e, p)
		}
		again, e := header.Pack(q)
		if e != api.OK || !bytes.Equal(again, b) {
			t.Fatalf("P14.7: packet %d has the bytes %x, error %d, the next time, not %x", n, again, e, b)
		}
	}
}

// P14.7: no other bytes are taken for a packet: with any byte turned, they are refused, or those of another packet.
func TestPacketsHaveOneForm(t *testing.T) {
	r := rand.New(rand.NewSource(6))
	for _, p := range []api.Packet{plain(32), first(33)} {
		right := wordsBytes(p)
		for at := range right {
			for range 6 {
				b := joined(right)
				b[at] ^= byte(1 + r.Intn(255))
				q, e := header.Unpack(b)
				if e != api.OK {
					continue
				}
				if samePacket(p, q) {
					t.Errorf("P14.7: Kind %d: byte %d turned: the same packet", p.Kind, at)
				}
				if again, e := header.Pack(q); e != api.OK || !bytes.Equal(again, b) {
					t.Errorf("P14.7: Kind %d: byte %d turned: error %d, %x, want %x", p.Kind, at, e, again, b)
				}
			}
		}
	}
}

// P14.7: so with offers.
func TestOffersThereAndBack(t *testing.T) {
	r := rand.New(rand.NewSource(7))
	right := 0
	for range 3000 {
		o := drawnOffer(r)
		b := header.Offer(o)
		got, e := header.ReadOffer(b)
		if o.Identity == (api.Key{}) || o.Key == (api.Key{}) || o.Prekey == 0 {
			if e != api.ErrBundle || got != (api.Offer{}) {
				t.Fatalf("P14.5: %x: error %d, %x", o, e, got)
			}
			continue
		}
		right++
		if e != api.OK || got != o || !bytes.Equal(header.Offer(got), b) {
			t.Fatalf("P14.7: %x comes back as %x, error %d", o, got, e)
		}
	}
	if right < 500 {
		t.Errorf("only %d of the offers are right ones", right)
	}
}

// P14.7: no bytes are both a packet's and a bundle's, whichever of the two they are nearly.
func TestNoBytesAreBoth(t *testing.T) {
	both := func(what string, b []byte) {
		t.Helper()
		_, e := header.Unpack(b)
		_, f := header.ReadOffer(b)
		if e == api.OK && f == api.OK {
			t.Errorf("P14.7: %s: %x is taken by both", what, b)
		}
	}
	for _, p := range bothKinds() {
		b := wordsBytes(p)
		both("a packet", b)
		b[1] = api.Bundle
		both("a packet with a bundle's kind", b)
		both("a packet with a bundle's kind and length", b[:70])
	}
	for kind := range 256 {
		b := wordsOffer(anOffer())
		b[1] = byte(kind)
		both("a bundle with any kind", b)
	}
	isRefused(t, "a bundle", wordsOffer(anOffer()), 103)
	isOffer(t, "a packet", wordsBytes(plain(32)), api.Offer{}, 103)
	isOffer(t, "a first packet", wordsBytes(first(32)), api.Offer{}, 103)
}

// P14.8: cut anywhere, ErrShort; with any byte behind, or many, ErrTail.
func TestCutAndMore(t *testing.T) {
	for _, p := range bothKinds() {
		b, _ := header.Pack(p)
		what := fmt.Sprintf("Kind %d with %d bytes", p.Kind, len(p.Body))
		for cut := range b {
			isRefused(t, fmt.Sprintf("P14.8: %s, cut at %d", what, cut), b[:cut], 10)
		}
		for behind := range 256 {
			isRefused(t, fmt.Sprintf("P14.8: %s, and %02x", what, behind), joined(b, []byte{byte(behind)}), 11)
		}
		isRefused(t, "P14.8: "+what+", twice", joined(b, b), 11)
		isRefused(t, "P14.8: "+what+", and very much", joined(b, zeros(1<<20)), 11)
	}
	b := header.Offer(anOffer())
	for cut := range b {
		isOffer(t, fmt.Sprintf("P14.8: a bundle, cut at %d", cut), b[:cut], api.Offer{}, 10)
	}
	for behind := range 256 {
		isOffer(t, fmt.Sprintf("P14.8: a bundle, and %02x", behind), joined(b, []byte{byte(behind)}), api.Offer{}, 11)
	}
	isOffer(t, "P14.8: a bundle, twice", joined(b, b), api.Offer{}, 11)
	isOffer(t, "P14.8: a bundle, and very much", joined(b, zeros(1<<20)), api.Offer{}, 11)
}

// P14.9: the header's own bytes stand in the packet's.
func TestHeaderWithin(t *testing.T) {
	r := rand.New(rand.NewSource(8))
	for n := range 3000 {
		p := drawnPacket(r)
		b, e := header.Pack(p)
		if e != api.OK {
			continue
		}
		at := 2
		if p.Kind == api.First {
			at = 70
		}
		if !bytes.Equal(b[at:at+60], header.Encode(p.Header)) {
			t.Fatalf("P14.9: draw %d, Kind %d: %x stands where the header should, %x", n, p.Kind, b[at:at+60], header.Encode(p.Header))
		}
	}
}
