package state_test

import (
	"bytes"
	"testing"

	"lethe/api"
	"lethe/state"
)

// The chapter's table, line by line.

func TestExamplesOfStates(t *testing.T) {
	x := key(0x21)
	bound := [64]byte(steps(0x21, 64))
	hello := api.State{Own: 1, Hello: api.Hello{Identity: x}, Bind: bound}
	unbound, behind := hello, hello
	unbound.Bind = [64]byte{}
	behind.Turns = 1
	for _, c := range []struct {
		what string
		s    api.State
		code api.Errno
	}{
		{"z", api.State{}, 0},
		{"z with Sent 1", api.State{Sent: 1}, 180},
		{"z with Own 2", api.State{Own: 2}, 180},
		{"z with Turns 1, Got 5", api.State{Turns: 1, Got: 5}, 0},
		{"z with Own 1, Sent 3, Serial 3", api.State{Own: 1, Sent: 3, Serial: 3}, 0},
		{"the same with Serial 4", api.State{Own: 1, Sent: 3, Serial: 4}, 180},
		{"z with Own 2, Turns 1, Sent 1, Prev 2, Serial 3", api.State{Own: 2, Turns: 1, Sent: 1, Prev: 2, Serial: 3}, 0},
		{"the same with Prev 3", api.State{Own: 2, Turns: 1, Sent: 1, Prev: 3, Serial: 3}, 180},
		{"a hello of x, Bind begins with x", hello, 0},
		{"the same, Bind zero", unbound, 180},
		{"the same, Turns 1", behind, 180},
	} {
		isChecked(t, c.what, c.s, c.code)
	}
}

func TestExamplesOfBytes(t *testing.T) {
	z := joined([]byte{1}, zeros(220), []byte{0})
	if b, e := state.Encode(api.State{}); e != api.OK || !bytes.Equal(b, z) || len(b) != 222 {
		t.Errorf("P18.3: Encode(z): %d, %d bytes %x", e, len(b), b)
	}
	isDecoded(t, "Encode(z)", z, 0)
	isDecoded(t, "no bytes", nil, 10)
	isDecoded(t, "no bytes", []byte{}, 10)
	isDecoded(t, "02", []byte{2}, 140)
	isDecoded(t, "01", []byte{1}, 10)
	isDecoded(t, "Encode(z) and one byte more", joined(z, []byte{0}), 11)
	isDecoded(t, "Encode(z), its last byte 02", joined(z[:221], []byte{2}), 180)
}

func TestExamplesOfLimits(t *testing.T) {
	l := api.Limits{Peers: 16, Prekeys: 64, Skip: 64, Skips: 256, Outbox: 64, Counter: 1000}
	want := []byte{0, 0x10, 0, 0x40, 0, 0x40, 1, 0, 0, 0x40, 0, 0, 3, 0xe8}
	if b, e := state.EncodeLimits(l); e != api.OK || !bytes.Equal(b, want) {
		t.Errorf("P18.6: EncodeLimits: %d, %x", e, b)
	}
	if b, e := state.EncodeLimits(api.Limits{Prekeys: 1, Outbox: 1, Counter: 1}); e != api.ErrLimits || len(b) != 0 {
		t.Errorf("P18.6: EncodeLimits({0 1 0 0 1 1}): %d, %x", e, b)
	}
	if l, e := state.DecodeLimits(want[:13]); e != api.ErrShort || l != (api.Limits{}) {
		t.Errorf("P18.6: DecodeLimits of 13 bytes: %d, %+v", e, l)
	}
}
