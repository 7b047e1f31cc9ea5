package header_test

import (
	"bytes"
	"encoding/hex"
	"math"
	"math/rand"
	"testing"

	"lethe/api"
	"lethe/header"
)

// joined: new memory, whatever room lies behind the parts.
func joined(parts ...[]byte) []byte { return bytes.Join(parts, nil) }

func zeros(n int) []byte { return make([]byte, n) }

func unhex(t *testing.T, s string) []byte {
	t.Helper()
	b, err := hex.DecodeString(s)
	if err != nil {
		t.Fatal(err)
	}
	return b
}

func keyOf(t *testing.T, s string) api.Key {
	t.Helper()
	return api.Key(unhex(t, s))
}

// four: a number's bytes, by division.
func four(n uint32) []byte {
	return []byte{byte(n / (256 * 256 * 256)), byte(n / (256 * 256) % 256), byte(n / 256 % 256), byte(n % 256)}
}

// run: with the number that is said, whether as many bytes follow or not.
func run(said int, b []byte) []byte { return joined([]byte{byte(said / 256), byte(said % 256)}, b) }

// steps: n bytes that go up from the given one, so that no two beside each other are alike.
func steps(from byte, n int) []byte {
	b := make([]byte, n)
	for i := range b {
		b[i] = from + byte(i)
	}
	return b
}

// whole: a list with its spare room.
func whole[T any](list []T) []T { return list[:cap(list)] }

// roomy: the same bytes with other ones in the spare room.
func roomy(b []byte) []byte {
	all := joined(b, steps(0x71, 40))
	return all[:len(b):len(all)]
}

// The packets and the offer that the tests begin with: every byte of a field is another one, so that fields that are changed over show.

func aHeader() api.Header {
	return api.Header{Sid: api.Sid(steps(0x10, 16)), Turn: 0xa1a2a3a4, Key: api.Key(steps(0x30, 32)), Prev: 0xb1b2b3b4, N: 0xc1c2c3c4}
}

func aHello() api.Hello {
	return api.Hello{Identity: api.Key(steps(0x50, 32)), Once: api.Key(steps(0x80, 32)), Prekey: 0xd1d2d3d4}
}

func plain(body int) api.Packet {
	return api.Packet{Kind: api.Plain, Header: aHeader(), Body: steps(7, body)}
}

func first(body int) api.Packet {
	return api.Packet{Kind: api.First, Hello: aHello(), Header: aHeader(), Body: steps(9, body)}
}

func anOffer() api.Offer {
	return api.Offer{Identity: api.Key(steps(0x60, 32)), Prekey: 0xe1e2e3e4, Key: api.Key(steps(0x90, 32))}
}

// bothKinds: right packets with bodies at both bounds and between them.
func bothKinds() []api.Packet {
	var list []api.Packet
	for _, n := range []int{32, 33, 255, 256, 257, 543, 544} {
		list = append(list, plain(n), first(n))
	}
	return list
}

// The chapter's sentences, made without any of what the program uses.

func wordsHeader(h api.Header) []byte {
	return joined(h.Sid[:], four(h.Turn), h.Key[:], four(h.Prev), four(h.N))
}

// wordsBytes: of any packet, right or wrong, whose kind and length have room in their bytes.
func wordsBytes(p api.Packet) []byte {
	var hello []byte
	if p.Kind == 1 {
		hello = joined(p.Hello.Identity[:], p.Hello.Once[:], four(p.Hello.Prekey))
	}
	return joined([]byte{1, byte(p.Kind)}, hello, wordsHeader(p.Header), run(len(p.Body), p.Body))
}

func wordsRightHello(kind int, h api.Hello) bool {
	none := bytes.Equal(h.Identity[:], zeros(32))
	if kind == 2 {
		return none && bytes.Equal(h.Once[:], zeros(32)) && h.Prekey == 0
	}
	return !none && h.Prekey > 0
}

func wordsPack(p api.Packet) ([]byte, api.Errno) {
	if p.Kind != 1 && p.Kind != 2 {
		return nil, 103
	}
	if !wordsRightHello(p.Kind, p.Hello) {
		return nil, 141
	}
	if len(p.Body) < 32 {
		return nil, 10
	}
	if len(p.Body) > 544 {
		return nil, 5
	}
	return wordsBytes(p), 0
}

func wordsNumber(b []byte) uint32 {
	return uint32(b[0])*256*256*256 + uint32(b[1])*256*256 + uint32(b[2])*256 + uint32(b[3])
}

func wordsUnpack(b []byte) (api.Packet, api.Errno) {
	if len(b) < 2 {
		return api.Packet{}, 10
	}
	if b[0] != 1 {
		return api.Packet{}, 140
	}
	if b[1] != 1 && b[1] != 2 {
		return api.Packet{}, 103
	}
	headAt := map[byte]int{1: 70, 2: 2}[b[1]]
	bodyAt := headAt + 62
	if len(b) < bodyAt {
		return api.Packet{}, 10
	}
	p := api.Packet{Kind: int(b[1])}
	if p.Kind == 1 {
		p.Hello = api.Hello{Identity: api.Key(b[2:34]), Once: api.Key(b[34:66]), Prekey: wordsNumber(b[66:70])}
	}
	if !wordsRightHello(p.Kind, p.Hello) {
		return api.Packet{}, 141
	}
	h := b[headAt:]
	p.Header = api.Header{Sid: api.Sid(h[:16]), Turn: wordsNumber(h[16:20]), Key: api.Key(h[20:52]), Prev: wordsNumber(h[52:56]), N: wordsNumber(h[56:60])}
	n := int(h[60])*256 + int(h[61])
	switch left := len(b) - bodyAt; {
	case n < 32:
		return api.Packet{}, 10
	case n > 544:
		return api.Packet{}, 5
	case left < n:
		return api.Packet{}, 10
	case left > n:
		return api.Packet{}, 11
	}
	p.Body = joined(b[bodyAt:])
	return p, 0
}

func wordsOffer(o api.Offer) []byte {
	return joined([]byte{1, 3}, o.Identity[:], four(o.Prekey), o.Key[:])
}

func wordsReadOffer(b []byte) (api.Offer, api.Errno) {
	switch {
	case len(b) < 2:
		return api.Offer{}, 10
	case b[0] != 1:
		return api.Offer{}, 140
	case b[1] != 3:
		return api.Offer{}, 103
	case len(b) < 70:
		return api.Offer{}, 10
	case len(b) > 70:
		return api.Offer{}, 11
	case bytes.Equal(b[2:34], zeros(32)) || bytes.Equal(b[34:38], zeros(4)) || bytes.Equal(b[38:], zeros(32)):
		return api.Offer{}, 170
	}
	return api.Offer{Identity: api.Key(b[2:34]), Prekey: wordsNumber(b[34:38]), Key: api.Key(b[38:])}, 0
}

// What is asked of the calls: of an error nothing beside it.

func samePacket(p, q api.Packet) bool {
	return p.Kind == q.Kind && p.Hello == q.Hello && p.Header == q.Header && bytes.Equal(p.Body, q.Body)
}

func isPacked(t *testing.T, what string, p api.Packet, want []byte, code api.Errno) {
	t.Helper()
	b, e := header.Pack(p)
	if e != code || !bytes.Equal(b, want) {
		t.Errorf("P14.3: %s: Pack: error %d, %d bytes %x; want %d, %d bytes %x", what, e, len(b), b, code, len(want), want)
	}
}

func isUnpacked(t *testing.T, what string, b []byte, want api.Packet, code api.Errno) {
	t.Helper()
	p, e := header.Unpack(b)
	if e != code || !samePacket(p, want) {
		t.Errorf("P14.4: %s: Unpack of %d bytes %.80x: error %d, %x; want %d, %x", what, len(b), b, e, p, code, want)
	}
}

func isRefused(t *testing.T, what string, b []byte, code api.Errno) {
	t.Helper()
	isUnpacked(t, what, b, api.Packet{}, code)
}

func isOffer(t *testing.T, what string, b []byte, want api.Offer, code api.Errno) {
	t.Helper()
	if o, e := header.ReadOffer(b); e != code || o != want {
		t.Errorf("P14.6: %s: ReadOffer of %d bytes %.80x: error %d, %x; want %d, %x", what, len(b), b, e, o, code, want)
	}
}

// farNumbers: numbers whose low bits could be taken for a kind.
func farNumbers() []int {
	return []int{math.MinInt, math.MinInt + 1, math.MinInt + 2, -1 << 32, -1<<32 + 1, -1<<32 + 2, -256, -255, -254, -2, -1, 0, 3, 4, 255, 256, 257, 258, 1<<16 + 1, 1<<31 + 1, 1 << 32, 1<<32 + 1, 1<<32 + 2, math.MaxInt - 1, math.MaxInt}
}

// Drawn things: they hang on the seed alone.

// drawnKey: now and then one of zeros, or with one byte that is none.
func drawnKey(r *rand.Rand) api.Key {
	var k api.Key
	switch r.Intn(5) {
	case 0:
	case 1:
		k[r.Intn(32)] = byte(1 + r.Intn(255))
	default:
		r.Read(k[:])
	}
	return k
}

func drawnNumber(r *rand.Rand) uint32 {
	return []uint32{0, 1, 255, 256, 1 << 24, math.MaxUint32, r.Uint32()}[r.Intn(7)]
}

// drawnPacket: right ones and ones with faults of all kinds.
func drawnPacket(r *rand.Rand) api.Packet {
	p := api.Packet{Kind: 1 + r.Intn(2)}
	if r.Intn(9) == 0 {
		p.Kind = farNumbers()[r.Intn(len(farNumbers()))]
	}
	if p.Kind == 1 || r.Intn(6) == 0 {
		p.Hello = api.Hello{Identity: drawnKey(r), Once: drawnKey(r), Prekey: drawnNumber(r)}
	}
	p.Header = api.Header{Turn: drawnNumber(r), Key: drawnKey(r), Prev: drawnNumber(r), N: drawnNumber(r)}
	r.Read(p.Header.Sid[:])
	p.Body = make([]byte, []int{0, 31, 32, 33, 32 + r.Intn(513), 32 + r.Intn(513), 543, 544, 545, 700}[r.Intn(10)])
	r.Read(p.Body)
	return p
}

func drawnOffer(r *rand.Rand) api.Offer {
	return api.Offer{Identity: drawnKey(r), Prekey: drawnNumber(r), Key: drawnKey(r)}
}
