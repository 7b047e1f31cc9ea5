package state_test

import (
	"bytes"
	"fmt"
	"math/rand"
	"testing"

	"lethe/api"
	"lethe/state"
)

// P18.3: where each form's fields stand, byte by byte.
func TestFormsBytes(t *testing.T) {
	s := talking()
	core := joined([]byte{1}, steps(0x10, 16), steps(0x21, 64), steps(0x62, 32), steps(0x83, 32), steps(0xa4, 32), steps(0xc5, 32))
	sending := joined(steps(0xe6, 32), []byte{0xb1, 0xb2, 0xb3, 0xb4, 0, 0, 0, 0})
	receiving := joined(steps(0x07, 32), []byte{0xa1, 0xa2, 0xa3, 0xa4})
	sent := []byte{0xb1, 0xb2, 0xb3, 0xb4}
	none, one := zeros(4), []byte{0, 0, 0, 1}
	for _, c := range []struct {
		what string
		s    api.State
		b    []byte
		size int
	}{
		{"waiting", waiting(), joined(core, none, none, none, []byte{0}), 222},
		{"listening", listening(), joined(core, none, one, none, receiving, []byte{0}), 258},
		{"writing", writing(), joined(core, one, none, sent, sending, []byte{0}), 262},
		{"greeting", greeting(), joined(core, one, none, sent, sending, []byte{1}, steps(0x48, 32), []byte{0xc1, 0xc2, 0xc3, 0xc4}), 298},
		{"answering", answering(), joined(core, one, one, sent, sending, receiving, []byte{0}), 298},
		{"talking", s, joined(core, []byte{1, 2, 3, 4, 1, 2, 3, 3, 0xd1, 0xd2, 0xd3, 0xd4}, steps(0xe6, 32), []byte{0x11, 0x12, 0x13, 0x14, 0x21, 0x22, 0x23, 0x24}, receiving, []byte{0}), 298},
	} {
		if b, e := state.Encode(c.s); e != api.OK || !bytes.Equal(b, c.b) || len(b) != c.size {
			t.Errorf("P18.3: %s: %d, %d bytes %x\nwant %d bytes %x", c.what, e, len(b), b, c.size, c.b)
		}
		isDecoded(t, c.what, c.b, 0)
	}
}

// P18.4: cut anywhere: ErrShort; anything behind: ErrTail.
func TestCutAndTail(t *testing.T) {
	for what, s := range forms() {
		b := wordsBytes(s, wordsMark(s))
		for n := range b {
			isDecoded(t, fmt.Sprintf("%s, cut to %d", what, n), b[:n], 10)
		}
		for _, tail := range [][]byte{{0}, {1}, {0xff}, zeros(36), steps(1, 36), zeros(70000), b} {
			isDecoded(t, fmt.Sprintf("%s and %d bytes", what, len(tail)), joined(b, tail), 11)
		}
	}
}

// P18.4: another version goes ahead of everything but no bytes at all.
func TestOtherVersions(t *testing.T) {
	for what, s := range forms() {
		b := wordsBytes(s, wordsMark(s))
		for first := range 256 {
			if first == 1 {
				continue
			}
			b[0] = byte(first)
			for _, n := range []int{1, 2, 100, 221, len(b)} {
				isDecoded(t, fmt.Sprintf("%s, version %d, %d bytes", what, first, n), b[:n], 140)
			}
			isDecoded(t, what+" and a tail", joined(b, []byte{0}), 140)
		}
	}
}

// P18.4: the byte ahead of the hello: any but 00 and 01 is ErrState, whatever follows it, or doesn't; behind fields that are cut it isn't reached.
func TestByteAheadOfHello(t *testing.T) {
	for what, s := range forms() {
		ahead := wordsBytes(s, 0)
		ahead = ahead[:len(ahead)-1]
		for mark := 2; mark < 256; mark++ {
			for _, behind := range [][]byte{nil, {0}, zeros(35), zeros(36), steps(1, 36), steps(1, 37), steps(1, 200)} {
				isDecoded(t, fmt.Sprintf("%s, byte %d, %d bytes behind", what, mark, len(behind)), joined(ahead, []byte{byte(mark)}, behind), 180)
			}
		}
		isDecoded(t, what+", 01 and 35 bytes", joined(ahead, []byte{1}, steps(1, 35)), 10)
		isDecoded(t, what+", 01 and 37 bytes", joined(ahead, []byte{1}, steps(1, 37)), 11)
		isDecoded(t, what+", nothing", ahead, 10)
	}
}

// P18.4: a hello that is written although it is all zero; further bytes go ahead of that, and so do missing ones.
func TestZeroHello(t *testing.T) {
	for what, s := range forms() {
		s.Bind, s.Hello = [64]byte{63: 1}, api.Hello{}
		b := wordsBytes(s, 1)
		isDecoded(t, what+", a zero hello", b, 180)
		isDecoded(t, what+", a zero hello and a byte", joined(b, []byte{0}), 11)
		isDecoded(t, what+", a zero hello that is cut", b[:len(b)-1], 10)
		isDecoded(t, what+", no hello", wordsBytes(s, 0), 0)
		s.Hello.Prekey = 1
		isDecoded(t, what+", a hello without an identity", wordsBytes(s, 1), 180)
		isDecoded(t, what+", a hello without an identity and a byte", joined(wordsBytes(s, 1), []byte{0}), 11)
	}
	s := greeting()
	s.Hello = api.Hello{Identity: s.Hello.Identity}
	isDecoded(t, "an identity alone, which isn't written", wordsBytes(s, 1), 0)
}

// P18.4: states that may not be, in whole bytes, cut, and with a tail: Check's error comes last.
func TestBytesOfNoStates(t *testing.T) {
	r := rand.New(rand.NewSource(4))
	seen := 0
	for n := range 20000 {
		s := drawnState(r)
		for _, mark := range []byte{0, 1} {
			b := wordsBytes(s, mark)
			what := fmt.Sprintf("draw %d, byte %d", n, mark)
			decodesByWords(t, what, b)
			if _, e := wordsDecode(b); e == 180 {
				seen++
				isDecoded(t, what+", cut", b[:1+r.Intn(len(b)-1)], 10)
				isDecoded(t, what+", a tail", joined(b, []byte{0}), 11)
			}
		}
	}
	if seen < 2000 {
		t.Errorf("only %d of the bytes were of no state", seen)
	}
}

// P18.4, P18.7: every byte of every form, with every value.
func TestEveryByteChanged(t *testing.T) {
	for what, s := range forms() {
		b := wordsBytes(s, wordsMark(s))
		for at := range b {
			was := b[at]
			for value := range 256 {
				b[at] = byte(value)
				decodesByWords(t, fmt.Sprintf("%s, byte %d is %d", what, at, value), b)
			}
			b[at] = was
		}
	}
}

// P18.1, P18.4: drawn bytes of all lengths around the forms' ends.
func TestDrawnBytes(t *testing.T) {
	r := rand.New(rand.NewSource(8))
	for n := range 40000 {
		b := make([]byte, []int{r.Intn(4), r.Intn(400), 221, 222, 258, 262, 294, 298, 334, 335}[r.Intn(10)])
		r.Read(b)
		for i := range b {
			if r.Intn(3) == 0 {
				b[i] = byte(r.Intn(3))
			}
		}
		if len(b) > 0 && r.Intn(9) > 0 {
			b[0] = 1
		}
		if len(b) > 221 && r.Intn(5) > 0 {
			copy(b[209:], joined(four(uint32(r.Intn(3))), four(uint32(r.Intn(3))), four(uint32(r.Intn(3)))))
		}
		for _, at := range []int{221, 257, 261, 297} {
			if len(b) > at && r.Intn(2) == 0 {
				b[at] = byte(r.Intn(3))
			}
		}
		decodesByWords(t, fmt.Sprintf("draw %d", n), b)
	}
}
