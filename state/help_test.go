package state_test

import (
	"bytes"
	"math"
	"math/rand"
	"testing"

	"lethe/api"
	"lethe/state"
)

// joined: new memory, whatever room lies behind the parts.
func joined(parts ...[]byte) []byte { return bytes.Join(parts, nil) }

func zeros(n int) []byte { return make([]byte, n) }

// four: a number's bytes, by division.
func four(n uint32) []byte {
	return []byte{byte(n / (256 * 256 * 256)), byte(n / (256 * 256) % 256), byte(n / 256 % 256), byte(n % 256)}
}

// steps: n bytes that go up from the given one, so that no two beside each other are alike.
func steps(from byte, n int) []byte {
	b := make([]byte, n)
	for i := range b {
		b[i] = from + byte(i)
	}
	return b
}

func key(from byte) api.Key { return api.Key(steps(from, 32)) }

// whole: a list with its spare room.
func whole(b []byte) []byte { return b[:cap(b)] }

// roomy: the same bytes with other ones in the spare room.
func roomy(b []byte) []byte {
	all := joined(b, steps(0x71, 400))
	return all[:len(b):len(all)]
}

// The states that the tests begin with, one of each form: every byte of a field is another one, so that fields that are changed over show.

// waiting: the state of the one who was written to, ahead of the first packet.
func waiting() api.State {
	return api.State{
		Sid: api.Sid(steps(0x10, 16)), Bind: [64]byte(steps(0x21, 64)), Root: key(0x62),
		Pair: api.Pair{Priv: key(0x83), Pub: key(0xa4)}, Peer: key(0xc5),
	}
}

// listening: without an own turn, though one of the peer's has begun.
func listening() api.State {
	s := waiting()
	s.Turns, s.RecvKey, s.Got = 1, key(0x07), 0xa1a2a3a4
	return s
}

// writing: the first own turn, nothing of the peer has come, and no hello goes along.
func writing() api.State {
	s := waiting()
	s.Own, s.SendKey, s.Sent, s.Serial = 1, key(0xe6), 0xb1b2b3b4, 0xb1b2b3b4
	return s
}

// greeting: the same with a hello.
func greeting() api.State {
	s := writing()
	s.Hello = api.Hello{Identity: key(0x21), Once: key(0x48), Prekey: 0xc1c2c3c4}
	return s
}

// answering: the first own turn, behind the peer's first.
func answering() api.State {
	s := writing()
	s.Turns, s.RecvKey, s.Got = 1, key(0x07), 0xa1a2a3a4
	return s
}

// talking: in the midst of a session.
func talking() api.State {
	s := answering()
	s.Own, s.Turns = 0x01020304, 0x01020303
	s.Sent, s.Prev, s.Serial = 0x11121314, 0x21222324, 0xd1d2d3d4
	return s
}

func forms() map[string]api.State {
	return map[string]api.State{"waiting": waiting(), "listening": listening(), "writing": writing(), "greeting": greeting(), "answering": answering(), "talking": talking()}
}

// What is asked of the calls, each held against the words; beside an error, nothing.

func isChecked(t *testing.T, what string, s api.State, code api.Errno) {
	t.Helper()
	if e := state.Check(s); e != code {
		t.Errorf("P18.2: %s: Check answers %d, want %d: %+v", what, e, code, s)
	}
	isEncoded(t, what, s, code)
}

func isEncoded(t *testing.T, what string, s api.State, code api.Errno) {
	t.Helper()
	want, said := wordsEncode(s)
	if said != code {
		t.Fatalf("%s: the words say %d, the test %d: %+v", what, said, code, s)
	}
	b, e := state.Encode(s)
	if e != code || !bytes.Equal(b, want) {
		t.Errorf("P18.3: %s: Encode answers %d, %x\nwant %d, %x", what, e, b, code, want)
	}
	if len(b) > 330 {
		t.Errorf("P18.8: %s: %d bytes", what, len(b))
	}
	if e != api.OK {
		return
	}
	if got, e := state.Decode(b); e != api.OK || got != s {
		t.Errorf("P18.7: %s: there and back: %d, %+v\nwant %+v", what, e, got, s)
	}
}

func isDecoded(t *testing.T, what string, b []byte, code api.Errno) {
	t.Helper()
	want, said := wordsDecode(b)
	if said != code {
		t.Fatalf("%s: the words say %d, the test %d: %x", what, said, code, b)
	}
	s, e := state.Decode(b)
	if e != code || s != want {
		t.Errorf("P18.4: %s: Decode of %x\nanswers %d, %+v\nwant %d, %+v", what, b, e, s, code, want)
	}
	if e != api.OK {
		return
	}
	if again, e := state.Encode(s); e != api.OK || !bytes.Equal(again, b) {
		t.Errorf("P18.7: %s: back and there: %d, %x\nwant %x", what, e, again, b)
	}
}

// followsWords: of any state and any bytes.
func followsWords(t *testing.T, what string, s api.State) {
	t.Helper()
	code := api.Errno(180)
	if wordsMayBe(s) {
		code = 0
	}
	isChecked(t, what, s, code)
}

func decodesByWords(t *testing.T, what string, b []byte) {
	t.Helper()
	_, code := wordsDecode(b)
	isDecoded(t, what, b, code)
}

func limitsFollowWords(t *testing.T, what string, l api.Limits) {
	t.Helper()
	want, code := wordsEncodeLimits(l)
	if e := state.CheckLimits(l); e != code {
		t.Errorf("P18.5: %s: CheckLimits of %+v answers %d, want %d", what, l, e, code)
	}
	b, e := state.EncodeLimits(l)
	if e != code || !bytes.Equal(b, want) {
		t.Errorf("P18.6: %s: EncodeLimits of %+v answers %d, %x; want %d, %x", what, l, e, b, code, want)
	}
	if e != api.OK {
		return
	}
	if got, e := state.DecodeLimits(b); e != api.OK || got != l {
		t.Errorf("P18.7: %s: limits there and back: %d, %+v; want %+v", what, e, got, l)
	}
}

func limitsDecodeByWords(t *testing.T, what string, b []byte) {
	t.Helper()
	want, code := wordsDecodeLimits(b)
	l, e := state.DecodeLimits(b)
	if e != code || l != want {
		t.Errorf("P18.6: %s: DecodeLimits of %x answers %d, %+v; want %d, %+v", what, b, e, l, code, want)
	}
	if e != api.OK {
		return
	}
	if again, e := state.EncodeLimits(l); e != api.OK || !bytes.Equal(again, b) {
		t.Errorf("P18.7: %s: limits back and there: %d, %x; want %x", what, e, again, b)
	}
}

// Drawn things: they hang on the seed alone.

// drawnKey: now and then one of zeros, or with one byte that is none.
func drawnKey(r *rand.Rand) api.Key {
	var k api.Key
	switch r.Intn(5) {
	case 0, 1:
	case 2:
		k[r.Intn(32)] = byte(1 + r.Intn(255))
	default:
		r.Read(k[:])
	}
	return k
}

func drawnNumber(r *rand.Rand) uint32 {
	return []uint32{0, 0, 0, 1, 1, 2, 3, 256, 1 << 24, math.MaxInt32, 1 << 31, math.MaxUint32 - 1, math.MaxUint32, r.Uint32()}[r.Intn(14)]
}

// drawnState: any; many of them may be.
func drawnState(r *rand.Rand) api.State {
	s := api.State{
		Root: drawnKey(r), Pair: api.Pair{Priv: drawnKey(r), Pub: drawnKey(r)}, Peer: drawnKey(r), SendKey: drawnKey(r), RecvKey: drawnKey(r),
		Own: drawnNumber(r), Turns: drawnNumber(r), Sent: drawnNumber(r), Got: drawnNumber(r), Prev: drawnNumber(r), Serial: drawnNumber(r),
	}
	r.Read(s.Sid[:])
	half, other := drawnKey(r), drawnKey(r)
	copy(s.Bind[:], joined(half[:], other[:]))
	if r.Intn(3) > 0 {
		s.Turns = s.Own + uint32(r.Intn(3)) - 1
	}
	if r.Intn(2) == 0 {
		s.Serial = s.Sent + s.Prev + uint32(r.Intn(3)) - 1
	}
	if r.Intn(3) == 0 {
		s.Hello = api.Hello{Identity: half, Once: drawnKey(r), Prekey: drawnNumber(r)}
	}
	if s.Own == 0 && r.Intn(4) > 0 {
		s.SendKey, s.Sent, s.Prev, s.Serial, s.Hello = api.Key{}, 0, 0, 0, api.Hello{}
	}
	if s.Own == 1 && r.Intn(4) > 0 {
		s.Prev, s.Serial = 0, s.Sent
	}
	if s.Turns == 0 && r.Intn(4) > 0 {
		s.RecvKey, s.Got = api.Key{}, 0
	}
	return s
}
