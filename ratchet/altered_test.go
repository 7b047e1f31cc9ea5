package ratchet_test

import (
	"encoding/binary"
	"fmt"
	"testing"

	"lethe/api"
)

// waiting: a side, and messages of each kind that Send has made for it; each of them opens there.
func waiting(t *testing.T) (side, map[string]letter) {
	t.Helper()
	a, b := begun(t, 11)
	all := map[string]letter{"old": a.sends(t, last, "zero", "data")}
	b.gets(t, "one", a.sends(t, last, "one", "data"), wide(), key(60))
	all["goes on"] = a.sends(t, last, "two", "data")
	all["goes on, with one missing"] = a.sends(t, last, "three", "data")
	a.gets(t, "answer", b.sends(t, last, "answer", "data"), wide(), key(61))
	all["new turn"] = a.sends(t, last, "four", "data")
	all["new turn, with one missing"] = a.sends(t, last, "five", "data")
	for what, m := range all {
		twin := b
		twin.gets(t, what, m, wide(), key(62))
	}
	return b, all
}

// isNotOpened: P16.5: an altered message is refused, as the words refuse it.
func isNotOpened(t *testing.T, what string, b side, m letter) api.Errno {
	t.Helper()
	a := isTold(t, what, b.with(m, wide(), key(62)))
	if a.e == api.OK {
		t.Errorf("P16.5: %s is opened: %q", what, a.text)
	}
	return a.e
}

// P16.5: each bit of the body, its length, each bit of the data, its length.
func TestAlteredBodyAndData(t *testing.T) {
	b, all := waiting(t)
	for kind, right := range all {
		for bit := range 8 * len(right.body) {
			m := right
			m.body = flipped(right.body, bit)
			isNotOpened(t, fmt.Sprintf("%s, bit %d of the body", kind, bit), b, m)
		}
		for bit := range 8 * len(right.data) {
			m := right
			m.data = flipped(right.data, bit)
			isNotOpened(t, fmt.Sprintf("%s, bit %d of the data", kind, bit), b, m)
		}
		for _, change := range []func(m *letter){
			func(m *letter) { m.body = m.body[1:] },
			func(m *letter) { m.body = m.body[:len(m.body)-1] },
			func(m *letter) { m.body = append([]byte{0}, m.body...) },
			func(m *letter) { m.body = append(m.body[:len(m.body):len(m.body)], 0) },
			func(m *letter) { m.data = nil },
			func(m *letter) { m.data = m.data[1:] },
			func(m *letter) { m.data = append([]byte("data"), 0) },
			func(m *letter) { m.data, m.body = append([]byte("data"), m.body[0]), m.body[1:] },
			func(m *letter) {
				m.data, m.body = m.data[:3], append([]byte{m.data[3]}, m.body...)
			},
		} {
			m := right
			change(&m)
			isNotOpened(t, kind+", another length", b, m)
		}
	}
}

func flipped(b []byte, bit int) []byte {
	out := append([]byte(nil), b...)
	out[bit/8] ^= 1 << (bit % 8)
	return out
}

// headerOf: a header of 60 bytes.
func headerOf(b []byte) api.Header {
	return api.Header{Sid: api.Sid(b[:16]), Turn: binary.BigEndian.Uint32(b[16:]), Key: api.Key(b[20:52]), Prev: binary.BigEndian.Uint32(b[52:]), N: binary.BigEndian.Uint32(b[56:])}
}

// P16.5: each bit of the header: a turn's key of which the highest bit is another makes the same secret, and is refused all the same.
func TestAlteredHeader(t *testing.T) {
	b, all := waiting(t)
	for kind, right := range all {
		plain := wordsSealData(api.State{}, right.h, nil)[64:]
		for bit := range 8 * 60 {
			m := right
			m.h = headerOf(flipped(plain, bit))
			isNotOpened(t, fmt.Sprintf("%s, bit %d of the header", kind, bit), b, m)
		}
		for _, change := range []func(h *api.Header){
			func(h *api.Header) { h.Turn++ }, func(h *api.Header) { h.Turn-- }, func(h *api.Header) { h.N++ }, func(h *api.Header) { h.N-- },
			func(h *api.Header) { h.Prev++ }, func(h *api.Header) { h.Prev-- }, func(h *api.Header) { h.Prev, h.N = h.N, h.Prev+1 }, func(h *api.Header) { *h = api.Header{} },
		} {
			m := right
			change(&m.h)
			isNotOpened(t, kind+", another number", b, m)
		}
	}
	m := all["new turn"]
	m.h.Key[31] ^= 0x80
	if e := isNotOpened(t, "the same point in another form", b, m); e != api.ErrTag {
		t.Errorf("P16.5: the same point in another form: error %d", e)
	}
}

// P16.5: one message's body under another one's header; and a message of another session, whose keys are the same but for its bind.
func TestAlteredAcross(t *testing.T) {
	b, all := waiting(t)
	for one, x := range all {
		for other, y := range all {
			if one != other {
				y.body = x.body
				isNotOpened(t, one+" under the header of "+other, b, y)
			}
		}
		for byte := range 64 {
			twin := b
			twin.s.Bind[byte] ^= 1
			if e := isNotOpened(t, one+" with another bind", twin, x); e != api.ErrTag {
				t.Errorf("P16.5: %s, byte %d of the bind: error %d", one, byte, e)
			}
		}
	}
}

// Behind refusals the message opens as if nothing had been: neither the state nor the draw was used up.
func TestRefusedLeaveNothing(t *testing.T) {
	b, all := waiting(t)
	for kind, right := range all {
		m := right
		m.body = flipped(right.body, 0)
		before := b.with(right, wide(), key(62)).asked()
		for range 3 {
			isNotOpened(t, kind, b, m)
		}
		if after := b.with(right, wide(), key(62)).asked(); !same(before, after) || after.e != api.OK {
			t.Errorf("P16.1: %s: error %d behind refusals, or another state", kind, after.e)
		}
	}
}
