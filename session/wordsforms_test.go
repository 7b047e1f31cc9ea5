package session_test

import (
	"bytes"

	"lethe/api"
)

// The words of chapters 14 and 18: packets, bundles, states and limits as bytes, by places that are counted from the front.

func isZero(b []byte) bool { return bytes.Equal(b, make([]byte, len(b))) }

func wordsHeader(h api.Header) []byte {
	return joined(h.Sid[:], four(h.Turn), h.Key[:], four(h.Prev), four(h.N))
}

// wordsPacket: of any packet whose kind and length have room in their bytes.
func wordsPacket(p api.Packet) []byte {
	var hello []byte
	if p.Kind == 1 {
		hello = joined(p.Hello.Identity[:], p.Hello.Once[:], four(p.Hello.Prekey))
	}
	n := len(p.Body)
	return joined([]byte{1, byte(p.Kind)}, hello, wordsHeader(p.Header), []byte{byte(n / 256), byte(n % 256)}, p.Body)
}

// wordsPack: of a header and a body that a step has made, which are right ones.
func wordsPack(hello api.Hello, h api.Header, body []byte) ([]byte, api.Errno) {
	if isZero(hello.Identity[:]) {
		return wordsPacket(api.Packet{Kind: 2, Header: h, Body: body}), 0
	}
	if hello.Prekey == 0 {
		return nil, 141
	}
	return wordsPacket(api.Packet{Kind: 1, Hello: hello, Header: h, Body: body}), 0
}

func wordsUnpack(b []byte) (api.Packet, api.Errno) {
	if len(b) < 2 {
		return api.Packet{}, 10
	}
	if b[0] != 1 {
		return api.Packet{}, 140
	}
	if b[1] != 1 && b[1] != 2 {
		return api.Packet{}, 103
	}
	headAt := map[byte]int{1: 70, 2: 2}[b[1]]
	bodyAt := headAt + 62
	if len(b) < bodyAt {
		return api.Packet{}, 10
	}
	p := api.Packet{Kind: int(b[1])}
	if p.Kind == 1 {
		p.Hello = api.Hello{Identity: api.Key(b[2:34]), Once: api.Key(b[34:66]), Prekey: wordsNumber(b[66:70])}
		if isZero(p.Hello.Identity[:]) || p.Hello.Prekey == 0 {
			return api.Packet{}, 141
		}
	}
	h := b[headAt:]
	p.Header = api.Header{Sid: api.Sid(h[:16]), Turn: wordsNumber(h[16:20]), Key: api.Key(h[20:52]), Prev: wordsNumber(h[52:56]), N: wordsNumber(h[56:60])}
	n := int(h[60])*256 + int(h[61])
	switch left := len(b) - bodyAt; {
	case n < 32:
		return api.Packet{}, 10
	case n > 544:
		return api.Packet{}, 5
	case left < n:
		return api.Packet{}, 10
	case left > n:
		return api.Packet{}, 11
	}
	p.Body = joined(b[bodyAt:])
	return p, 0
}

func wordsOffer(o api.Offer) []byte {
	return joined([]byte{1, 3}, o.Identity[:], four(o.Prekey), o.Key[:])
}

func wordsReadOffer(b []byte) (api.Offer, api.Errno) {
	switch {
	case len(b) < 2:
		return api.Offer{}, 10
	case b[0] != 1:
		return api.Offer{}, 140
	case b[1] != 3:
		return api.Offer{}, 103
	case len(b) < 70:
		return api.Offer{}, 10
	case len(b) > 70:
		return api.Offer{}, 11
	case isZero(b[2:34]) || isZero(b[34:38]) || isZero(b[38:]):
		return api.Offer{}, 170
	}
	return api.Offer{Identity: api.Key(b[2:34]), Prekey: wordsNumber(b[34:38]), Key: api.Key(b[38:])}, 0
}

func helloZero(h api.Hello) bool {
	return isZero(h.Identity[:]) && isZero(h.Once[:]) && h.Prekey == 0
}

// wordsMayBe: chapter 18's six rules; its numbers are int64s, of which no sum or difference wraps round.
func wordsMayBe(s api.State) bool {
	own, turns := int64(s.Own), int64(s.Turns)
	sent, prev, serial := int64(s.Sent), int64(s.Prev), int64(s.Serial)
	noIdentity := isZero(s.Hello.Identity[:])
	nothingSent := isZero(s.SendKey[:]) && sent == 0 && prev == 0 && serial == 0 && helloZero(s.Hello)
	return own-turns <= 1 && turns-own <= 1 &&
		(own > 0 || nothingSent) &&
		(turns > 0 || isZero(s.RecvKey[:]) && s.Got == 0) &&
		(own != 1 || prev == 0 && serial == sent) && (own == 0 || serial >= sent && serial-sent >= prev) &&
		(helloZero(s.Hello) || !noIdentity && turns == 0) &&
		(noIdentity || bytes.Equal(s.Hello.Identity[:], s.Bind[:32]))
}

// wordsState: of any state, whether it may be or not.
func wordsState(s api.State) []byte {
	b := joined([]byte{1}, s.Sid[:], s.Bind[:], s.Root[:], s.Pair.Priv[:], s.Pair.Pub[:], s.Peer[:], four(s.Own), four(s.Turns), four(s.Serial))
	if s.Own > 0 {
		b = joined(b, s.SendKey[:], four(s.Sent), four(s.Prev))
	}
	if s.Turns > 0 {
		b = joined(b, s.RecvKey[:], four(s.Got))
	}
	if helloZero(s.Hello) {
		return joined(b, []byte{0})
	}
	return joined(b, []byte{1}, s.Hello.Once[:], four(s.Hello.Prekey))
}

func wordsEncode(s api.State) ([]byte, api.Errno) {
	if !wordsMayBe(s) {
		return nil, 180
	}
	return wordsState(s), 0
}

// wordsDecode: which error it is that chapter 18 tells counts for nothing here.
func wordsDecode(b []byte) (api.State, bool) {
	if len(b) < 222 || b[0] != 1 {
		return api.State{}, false
	}
	s := api.State{Sid: api.Sid(b[1:17]), Bind: [64]byte(b[17:81]), Root: api.Key(b[81:113]), Pair: api.Pair{Priv: api.Key(b[113:145]), Pub: api.Key(b[145:177])}, Peer: api.Key(b[177:209])}
	s.Own, s.Turns, s.Serial = wordsNumber(b[209:213]), wordsNumber(b[213:217]), wordsNumber(b[217:221])
	rest := b[221:]
	if s.Own > 0 {
		if len(rest) < 40 {
			return api.State{}, false
		}
		s.SendKey, s.Sent, s.Prev, rest = api.Key(rest[:32]), wordsNumber(rest[32:36]), wordsNumber(rest[36:40]), rest[40:]
	}
	if s.Turns > 0 {
		if len(rest) < 36 {
			return api.State{}, false
		}
		s.RecvKey, s.Got, rest = api.Key(rest[:32]), wordsNumber(rest[32:36]), rest[36:]
	}
	if len(rest) == 37 && rest[0] == 1 {
		s.Hello = api.Hello{Identity: api.Key(s.Bind[:32]), Once: api.Key(rest[1:33]), Prekey: wordsNumber(rest[33:])}
		return s, !helloZero(s.Hello) && wordsMayBe(s)
	}
	return s, len(rest) == 1 && rest[0] == 0 && wordsMayBe(s)
}

// wordsLimitsBytes: of any limits whose numbers have room in their bytes.
func wordsLimitsBytes(l api.Limits) []byte {
	var b []byte
	for _, n := range []int{l.Peers, l.Prekeys, l.Skip, l.Skips, l.Outbox} {
		b = append(b, byte(n/256), byte(n%256))
	}
	return joined(b, four(l.Counter))
}

func wordsDecodeLimits(b []byte) (api.Limits, api.Errno) {
	switch {
	case len(b) < 14:
		return api.Limits{}, 10
	case len(b) > 14:
		return api.Limits{}, 11
	}
	two := func(at int) int { return int(b[at])*256 + int(b[at+1]) }
	l := api.Limits{Peers: two(0), Prekeys: two(2), Skip: two(4), Skips: two(6), Outbox: two(8), Counter: wordsNumber(b[10:])}
	if l.Peers < 1 || l.Peers > 16 || l.Prekeys < 1 || l.Prekeys > 64 || l.Skip > 64 || l.Skips > 256 || l.Outbox < 1 || l.Outbox > 64 || l.Counter < 1 {
		return api.Limits{}, 2
	}
	return l, 0
}
