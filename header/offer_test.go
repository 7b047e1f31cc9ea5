package header_test

import (
	"bytes"
	"fmt"
	"math"
	"math/rand"
	"testing"

	"lethe/api"
	"lethe/header"
)

func isBundle(t *testing.T, what string, o api.Offer, want []byte) {
	t.Helper()
	if b := header.Offer(o); !bytes.Equal(b, want) {
		t.Errorf("P14.5: %s: Offer: %x, want %x", what, b, want)
	}
}

// P14.5: each field where it stands; zeros; all bits: whatever stands in it.
func TestOffer(t *testing.T) {
	isBundle(t, "no two fields alike", anOffer(), joined([]byte{1, 3}, steps(0x60, 32), []byte{0xe1, 0xe2, 0xe3, 0xe4}, steps(0x90, 32)))
	isBundle(t, "zeros", api.Offer{}, joined([]byte{1, 3}, zeros(68)))
	full := api.Offer{Prekey: math.MaxUint32}
	for i := range 32 {
		full.Identity[i], full.Key[i] = 0xff, 0xff
	}
	isBundle(t, "all bits", full, joined([]byte{1, 3}, bytes.Repeat([]byte{0xff}, 68)))
	isOffer(t, "all bits", joined([]byte{1, 3}, bytes.Repeat([]byte{0xff}, 68)), full, 0)
}

// P14.5, P14.6: each bit of an offer is one of its bundle's bits, and back.
func TestOfferBitByBit(t *testing.T) {
	plain := wordsOffer(anOffer())
	for bit := 16; bit < 8*70; bit++ {
		b := joined(plain)
		b[bit/8] ^= 0x80 >> (bit % 8)
		o, e := header.ReadOffer(b)
		if e != api.OK || o == anOffer() {
			t.Fatalf("P14.6: bit %d turned: error %d, %x", bit, e, o)
		}
		isBundle(t, fmt.Sprintf("bit %d turned", bit), o, b)
	}
}

// P14.6: an offer that has all it must have, and ones that lack each part, alone and together.
func TestReadOffer(t *testing.T) {
	isOffer(t, "a right one", wordsOffer(anOffer()), anOffer(), 0)
	least := api.Offer{Identity: api.Key{31: 1}, Prekey: 1, Key: api.Key{31: 1}}
	isOffer(t, "one bit a part", wordsOffer(least), least, 0)
	high := api.Offer{Identity: api.Key{0x80}, Prekey: 1 << 31, Key: api.Key{0x80}}
	isOffer(t, "the highest bit of each part", wordsOffer(high), high, 0)
	alike := api.Offer{Identity: api.Key{5}, Prekey: 7, Key: api.Key{5}}
	isOffer(t, "both keys alike", wordsOffer(alike), alike, 0)
	for set := 1; set < 8; set++ {
		o := anOffer()
		if set&1 != 0 {
			o.Identity = api.Key{}
		}
		if set&2 != 0 {
			o.Prekey = 0
		}
		if set&4 != 0 {
			o.Key = api.Key{}
		}
		b := wordsOffer(o)
		isBundle(t, fmt.Sprintf("parts %03b missing", set), o, b)
		isOffer(t, fmt.Sprintf("parts %03b missing", set), b, api.Offer{}, 170)
		isOffer(t, fmt.Sprintf("parts %03b missing, cut", set), b[:69], api.Offer{}, 10)
		isOffer(t, fmt.Sprintf("parts %03b missing, and more", set), joined(b, []byte{0}), api.Offer{}, 11)
	}
}

// P14.6: every two bytes that a bundle could begin with, at each length that matters.
func TestReadOfferStarts(t *testing.T) {
	for version := range 256 {
		isOffer(t, fmt.Sprintf("%02x alone", version), []byte{byte(version)}, api.Offer{}, 10)
		for kind := range 256 {
			for _, n := range []int{0, 1, 67, 68, 69} {
				b := joined([]byte{byte(version), byte(kind)}, steps(1, n))
				o, want := wordsReadOffer(b)
				isOffer(t, fmt.Sprintf("%02x %02x and %d bytes", version, kind, n), b, o, want)
			}
		}
	}
	isOffer(t, "no bytes", nil, api.Offer{}, 10)
}

// P14.6: drawn offers' bytes, right and wrong ones, with bytes turned, cut and added, held against the chapter's words.
func TestReadOfferDrawn(t *testing.T) {
	r := rand.New(rand.NewSource(4))
	for n := range 20000 {
		o := drawnOffer(r)
		b := wordsOffer(o)
		isBundle(t, fmt.Sprintf("draw %d", n), o, b)
		switch r.Intn(6) {
		case 0:
			b[r.Intn(len(b))] ^= byte(1 + r.Intn(255))
		case 1:
			b = b[:r.Intn(len(b))]
		case 2:
			b = joined(b, steps(0, 1+r.Intn(40)))
		case 3:
			b[r.Intn(2)] = byte(r.Intn(4))
		}
		want, e := wordsReadOffer(b)
		isOffer(t, fmt.Sprintf("draw %d", n), b, want, e)
	}
}
