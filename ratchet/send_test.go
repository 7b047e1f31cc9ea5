package ratchet_test

import (
	"bytes"
	"fmt"
	"math/rand"
	"testing"

	"lethe/api"
	"lethe/ratchet"
)

// P16.1: Begin: every field, at drawn arguments; a pair is taken as it stands, whether its halves fit or not.
func TestBegin(t *testing.T) {
	r := rand.New(rand.NewSource(1))
	for n := range 60 {
		secret, sid, bind := drawnKey(r), api.Sid(drawnBytes(r, 16)), [64]byte(drawnBytes(r, 64))
		own, peer := wordsPair(drawnKey(r)), drawnKey(r)
		if n%3 == 0 {
			own = api.Pair{Priv: drawnKey(r), Pub: drawnKey(r)}
		}
		got, e := ratchet.Begin(secret, sid, bind, own, peer)
		shared, _ := wordsShared(own.Priv, peer)
		root, first := wordsRoot(secret, shared)
		want := api.State{Sid: sid, Bind: bind, Pair: own, Peer: peer, Own: 1, Root: root, SendKey: first}
		if e != api.OK || got != want {
			t.Errorf("P16.1: Begin: error %d, %+v\nwant %+v", e, got, want)
		}
	}
}

// P16.1: Begin with each key that makes nothing but zeros, whatever the pair is.
func TestBeginPoint(t *testing.T) {
	for i, low := range lowKeys() {
		for _, own := range []api.Pair{pair(i), {}, {Priv: low, Pub: low}} {
			if s, e := ratchet.Begin(key(i), api.Sid{1}, [64]byte{2}, own, low); s != (api.State{}) || e != api.ErrPoint {
				t.Errorf("P16.1: Begin with %x: error %d, %+v", low, e, s)
			}
		}
	}
	if _, e := ratchet.Begin(key(1), api.Sid{}, [64]byte{}, api.Pair{}, pair(1).Pub); e != api.OK {
		t.Errorf("P16.1: Begin with a pair of zeros: error %d: it is one as any other", e)
	}
}

// P16.1: Answer: every field.
func TestAnswer(t *testing.T) {
	r := rand.New(rand.NewSource(2))
	for range 60 {
		secret, sid, bind := drawnKey(r), api.Sid(drawnBytes(r, 16)), [64]byte(drawnBytes(r, 64))
		own := api.Pair{Priv: drawnKey(r), Pub: drawnKey(r)}
		if got, want := ratchet.Answer(secret, sid, bind, own), (api.State{Sid: sid, Bind: bind, Pair: own, Root: secret}); got != want {
			t.Errorf("P16.1: Answer: %+v\nwant %+v", got, want)
		}
	}
}

// drawnState: one of all that there may be, its numbers at their ends now and then.
func drawnState(r *rand.Rand) api.State {
	number := func() uint32 { return oneOf(r, 0, 1, 2, 3, 7, 63, 64, 65, 1<<31, last-1, last, r.Uint32()) }
	return api.State{
		Sid: api.Sid(drawnBytes(r, 16)), Root: drawnKey(r), Pair: api.Pair{Priv: drawnKey(r), Pub: drawnKey(r)}, Peer: drawnKey(r),
		SendKey: drawnKey(r), RecvKey: drawnKey(r), Own: number(), Turns: number(), Sent: number(), Got: number(), Prev: number(),
		Serial: number(), Hello: api.Hello{Identity: drawnKey(r), Once: drawnKey(r), Prekey: number()}, Bind: [64]byte(drawnBytes(r, 64)),
	}
}

// isSent: Send answers what the words say.
func isSent(t *testing.T, what string, s api.State, counter uint32, text, data []byte) api.Errno {
	t.Helper()
	gs, gh, gbody, ge := ratchet.Send(s, counter, text, data)
	ws, wh, wbody, we := wordsSend(s, counter, text, data)
	if ge != we || gs != ws || gh != wh || !bytes.Equal(gbody, wbody) {
		t.Errorf("P16.1: %s: Send answers error %d, %+v, %x, %+v\nwant %d, %+v, %x, %+v", what, ge, gh, gbody, gs, we, wh, wbody, ws)
	}
	return ge
}

// P16.1: Send at drawn states, counters, texts and data.
func TestSendDrawn(t *testing.T) {
	r := rand.New(rand.NewSource(3))
	count := map[api.Errno]int{}
	for n := range 4000 {
		s := drawnState(r)
		counter := oneOf(r, 0, 1, 2, s.Sent, s.Sent+1, s.Serial, s.Serial+1, last-1, last)
		text, data := drawnBytes(r, oneOf(r, 0, 1, 33, 511, 512, 512, 513, 600)), drawnBytes(r, oneOf(r, 0, 1, 63, 64, 65, 200))
		count[isSent(t, fmt.Sprintf("draw %d", n), s, counter, text, data)]++
	}
	for _, code := range []api.Errno{api.OK, api.ErrLong, api.ErrSend, api.ErrCounter} {
		if count[code] < 50 {
			t.Errorf("error %d was drawn %d times alone", code, count[code])
		}
	}
}

// P16.1: all that Send leaves as it was, and what it does not: each field by name.
func TestSendFields(t *testing.T) {
	for _, own := range []uint32{1, 2, 1 << 31, last} {
		s := place(3, 2, api.Header{Turn: 2, N: 2}).s
		s.Own = own
		next, h, body, e := ratchet.Send(s, last, []byte("abc"), []byte("d"))
		if e != api.OK || len(body) != 35 {
			t.Fatalf("P16.1: Send: error %d, %d bytes", e, len(body))
		}
		if want := (api.Header{Sid: s.Sid, Turn: own - 1, Key: s.Pair.Pub, Prev: s.Prev, N: s.Sent}); h != want {
			t.Errorf("P16.1: Send: header %+v, want %+v", h, want)
		}
		_, want := wordsChain(s.SendKey, 0)
		if next.SendKey != want || next.Sent != s.Sent+1 || next.Serial != s.Serial+1 {
			t.Errorf("P16.1: Send: SendKey %x, Sent %d, Serial %d", next.SendKey, next.Sent, next.Serial)
		}
		next.SendKey, next.Sent, next.Serial = s.SendKey, s.Sent, s.Serial
		if next != s {
			t.Errorf("P16.1: Send: another field has changed: %+v", next)
		}
	}
}

// P16.1: how long text and data may be, at every length up to one beyond.
func TestSendLengths(t *testing.T) {
	s := place(3, 2, api.Header{Turn: 2, N: 2}).s
	for n := 0; n <= 513; n++ {
		want := api.OK
		if n > 512 {
			want = api.ErrLong
		}
		if e := isSent(t, "a text", s, last, bytes.Repeat([]byte{7}, n), nil); e != want {
			t.Errorf("P16.1: Send of a text of %d bytes: error %d", n, e)
		}
	}
	for n := 0; n <= 65; n++ {
		want := api.OK
		if n > 64 {
			want = api.ErrLong
		}
		if e := isSent(t, "data", s, last, nil, bytes.Repeat([]byte{7}, n)); e != want {
			t.Errorf("P16.1: Send with data of %d bytes: error %d", n, e)
		}
	}
	for _, n := range []int{66, 128, 256, 320, 1 << 16, 1<<16 + 64, 1 << 20} {
		if e := isSent(t, "long data", s, last, nil, make([]byte, n)); e != api.ErrLong {
			t.Errorf("P16.1: Send with data of %d bytes: error %d", n, e)
		}
		if e := isSent(t, "a long text", s, last, make([]byte, n+512), nil); e != api.ErrLong {
			t.Errorf("P16.1: Send of a text of %d bytes: error %d", n+512, e)
		}
	}
}

// P16.1: Sent and Serial on both sides of the counter.
func TestSendCounters(t *testing.T) {
	s := place(3, 2, api.Header{Turn: 2, N: 2}).s
	for _, c := range []struct {
		sent, serial, counter uint32
		want                  api.Errno
	}{
		{0, 0, 0, api.ErrCounter}, {0, 0, 1, api.OK}, {1, 0, 1, api.ErrCounter}, {0, 1, 1, api.ErrCounter},
		{4, 4, 5, api.OK}, {5, 4, 5, api.ErrCounter}, {4, 5, 5, api.ErrCounter}, {6, 4, 5, api.ErrCounter}, {4, last, 5, api.ErrCounter}, {last, 4, 5, api.ErrCounter},
		{last - 1, last - 1, last, api.OK}, {last, last - 1, last, api.ErrCounter}, {last - 1, last, last, api.ErrCounter}, {1 << 31, 1 << 31, 1<<31 + 1, api.OK},
	} {
		s.Sent, s.Serial = c.sent, c.serial
		if e := isSent(t, fmt.Sprint(c), s, c.counter, []byte("x"), nil); e != c.want {
			t.Errorf("P16.1: Send with Sent %d, Serial %d, counter %d: error %d, want %d", c.sent, c.serial, c.counter, e, c.want)
		}
	}
}

// P16.1: each set of Send's faults: the answer is the one that is named first.
func TestSendFaultsTogether(t *testing.T) {
	for set := range 32 {
		s, text, data := place(3, 2, api.Header{Turn: 2, N: 2}).s, make([]byte, 512), make([]byte, 64)
		counter, want := s.Serial+1, api.OK
		if set&16 > 0 {
			s.Serial++
			want = api.ErrCounter
		}
		if set&8 > 0 {
			s.Sent = counter
			want = api.ErrCounter
		}
		if set&4 > 0 {
			s.Own = 0
			want = api.ErrSend
		}
		if set&2 > 0 {
			data = append(data, 0)
			want = api.ErrLong
		}
		if set&1 > 0 {
			text = append(text, 0)
			want = api.ErrLong
		}
		if e := isSent(t, "faults", s, counter, text, data); e != want {
			t.Errorf("P16.1: Send: the faults of set %b: error %d, want %d", set, e, want)
		}
	}
}
