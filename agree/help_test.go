package agree_test

import (
	"bytes"
	"math"
	"math/rand"
	"testing"

	"lethe/agree"
	"lethe/api"
)

const lastNumber = math.MaxUint32

func start(own, once api.Pair, offer api.Offer) started {
	secret, sid, bind, hello, e := agree.Start(own, once, offer)
	return started{secret, sid, bind, hello, e}
}

func meet(own, prekey api.Pair, hello api.Hello) met {
	secret, sid, bind, e := agree.Meet(own, prekey, hello)
	return met{secret, sid, bind, e}
}

// toldStart: what Start answers, which must be what the words say.
func toldStart(t *testing.T, what string, own, once api.Pair, offer api.Offer) started {
	t.Helper()
	got, want := start(own, once, offer), wordsStart(own, once, offer)
	if got != want {
		t.Errorf("P17.3: %s: Start answers %+v\nwant %+v", what, got, want)
	}
	return got
}

// toldMeet: what Meet answers, which must be what the words say.
func toldMeet(t *testing.T, what string, own, prekey api.Pair, hello api.Hello) met {
	t.Helper()
	got, want := meet(own, prekey, hello), wordsMeet(own, prekey, hello)
	if got != want {
		t.Errorf("P17.4: %s: Meet answers %+v\nwant %+v", what, got, want)
	}
	return got
}

// refusedStart: an error, and nothing but zeros beside it.
func refusedStart(t *testing.T, what string, code api.Errno, own, once api.Pair, offer api.Offer) {
	t.Helper()
	if got := toldStart(t, what, own, once, offer); got != (started{e: code}) {
		t.Errorf("P17.1: %s: Start answers %+v, want error %d and zeros", what, got, code)
	}
}

func refusedMeet(t *testing.T, what string, code api.Errno, own, prekey api.Pair, hello api.Hello) {
	t.Helper()
	if got := toldMeet(t, what, own, prekey, hello); got != (met{e: code}) {
		t.Errorf("P17.1: %s: Meet answers %+v, want error %d and zeros", what, got, code)
	}
}

// pair: a right one that no other number has.
func pair(n byte) api.Pair { return wordsPair(api.Key{0: n, 1: 7, 30: n, 31: 9}) }

func filled(b byte) api.Key { return api.Key(bytes.Repeat([]byte{b}, 32)) }

// cast: the four pairs of an agreement: who writes first, its once pair, the other, its prekey.
type cast struct {
	a, e, b, p api.Pair
}

func someCast() cast { return cast{pair(1), pair(2), pair(3), pair(4)} }

func (c cast) offer(number uint32) api.Offer {
	return api.Offer{Identity: c.b.Pub, Prekey: number, Key: c.p.Pub}
}

func (c cast) hello(number uint32) api.Hello {
	return api.Hello{Identity: c.a.Pub, Once: c.e.Pub, Prekey: number}
}

// lowKeys: those of which every shared secret is all zeros, in all their forms.
func lowKeys() []api.Key {
	forms := []api.Key{
		{},
		{1},
		{0xe0, 0xeb, 0x7a, 0x7c, 0x3b, 0x41, 0xb8, 0xae, 0x16, 0x56, 0xe3, 0xfa, 0xf1, 0x9f, 0xc4, 0x6a, 0xda, 0x09, 0x8d, 0xeb, 0x9c, 0x32, 0xb1, 0xfd, 0x86, 0x62, 0x05, 0x16, 0x5f, 0x49, 0xb8, 0x00},
		{0x5f, 0x9c, 0x95, 0xbc, 0xa3, 0x50, 0x8c, 0x24, 0xb1, 0xd0, 0xb1, 0x55, 0x9c, 0x83, 0xef, 0x5b, 0x04, 0x44, 0x5c, 0xc4, 0x58, 0x1c, 0x8e, 0x86, 0xd8, 0x22, 0x4e, 0xdd, 0xd0, 0x9f, 0x11, 0x57},
		nearModulus(-1), nearModulus(0), nearModulus(1),
	}
	var all []api.Key
	for _, k := range forms {
		all = append(all, k, highBit(k))
	}
	return all
}

// nearModulus: the key of the number 2^255 - 19 + n, n from -19 to 18: from 0 on it has the u n.
func nearModulus(n int) api.Key {
	k := filled(0xff)
	k[0], k[31] = byte(0xed+n), 0x7f
	return k
}

// highBit: the same with the bit turned that doesn't count in a public key.
func highBit(k api.Key) api.Key {
	k[31] ^= 0x80
	return k
}

// sameClamped: all keys that clamp to the same as this one.
func sameClamped(k api.Key) []api.Key {
	var all []api.Key
	for low := range byte(8) {
		for high := range byte(4) {
			other := k
			other[0] = k[0]&^7 | low
			other[31] = k[31]&0x3f | high<<6
			all = append(all, other)
		}
	}
	return all
}

// withBitTurned: bit 0 is the lowest of the first byte.
func withBitTurned(k api.Key, bit int) api.Key {
	k[bit/8] ^= 1 << (bit % 8)
	return k
}

// Drawn things: they hang on the seed alone.

func drawnKey(r *rand.Rand) api.Key {
	var k api.Key
	r.Read(k[:])
	return k
}

func drawnPair(r *rand.Rand) api.Pair { return wordsPair(drawnKey(r)) }

func drawnCast(r *rand.Rand) cast {
	return cast{drawnPair(r), drawnPair(r), drawnPair(r), drawnPair(r)}
}
