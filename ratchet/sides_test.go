package ratchet_test

import (
	"bytes"
	"testing"

	"lethe/api"
	"lethe/ratchet"
)

// side: one of two machines.
type side struct {
	s    api.State
	list []api.Skipped
}

// letter: a message on its way, with what it must open to.
type letter struct {
	h                api.Header
	body, text, data []byte
}

// begun: two machines with one secret: the first one writes first.
func begun(t *testing.T, n int) (a, b side) {
	t.Helper()
	bob := pair(n + 1)
	bind := [64]byte{0: byte(n), 63: 9}
	s, e := ratchet.Begin(key(n+2), api.Sid{byte(n)}, bind, pair(n), bob.Pub)
	if e != api.OK {
		t.Fatalf("P16.1: Begin: error %d", e)
	}
	return side{s: s}, side{s: ratchet.Answer(key(n+2), api.Sid{byte(n)}, bind, bob)}
}

// sends: the next message; the words make the same.
func (x *side) sends(t *testing.T, counter uint32, text, data string) letter {
	t.Helper()
	s, h, body, e := ratchet.Send(x.s, counter, []byte(text), []byte(data))
	ws, wh, wbody, we := wordsSend(x.s, counter, []byte(text), []byte(data))
	if e != api.OK || we != api.OK || s != ws || h != wh || !bytes.Equal(body, wbody) {
		t.Fatalf("P16.1: Send(%q): error %d, %+v, %x\nwant %d, %+v, %x", text, e, h, body, we, wh, wbody)
	}
	x.s = s
	return letter{h, body, []byte(text), []byte(data)}
}

// with: what is handed to Receive, if the letter comes.
func (x side) with(m letter, lim api.Limits, draw api.Key) given {
	return given{s: x.s, skipped: x.list, lim: lim, h: m.h, body: m.body, data: m.data, draw: draw}
}

// gets: a letter that must open to its text.
func (x *side) gets(t *testing.T, what string, m letter, lim api.Limits, draw api.Key) {
	t.Helper()
	a := isTold(t, what, x.with(m, lim, draw))
	if a.e != api.OK || !bytes.Equal(a.text, m.text) {
		t.Fatalf("P16.2: %s: error %d, %q, want %q", what, a.e, a.text, m.text)
	}
	x.s, x.list = a.s, a.skipped
}

// refuses: a letter that is refused, whatever draw comes with it.
func (x side) refuses(t *testing.T, what string, code api.Errno, m letter, lim api.Limits) {
	t.Helper()
	isRefused(t, what, code, x.with(m, lim, key(77)))
}

// has: the counters of a side, and the places of its skipped keys.
func (x side) has(t *testing.T, what string, own, turns, got uint32, places ...[2]uint32) {
	t.Helper()
	if x.s.Own != own || x.s.Turns != turns || x.s.Got != got {
		t.Errorf("P16.1: %s: Own %d, Turns %d, Got %d, want %d, %d, %d", what, x.s.Own, x.s.Turns, x.s.Got, own, turns, got)
	}
	if len(x.list) != len(places) {
		t.Fatalf("P16.1: %s: %d skipped keys, want %d", what, len(x.list), len(places))
	}
	for i, p := range places {
		if x.list[i].Turn != p[0] || x.list[i].N != p[1] {
			t.Errorf("P16.1: %s: skipped key %d is %d.%d, want %d.%d", what, i, x.list[i].Turn, x.list[i].N, p[0], p[1])
		}
	}
}
