package state_test

import (
	"fmt"
	"math/rand"
	"testing"

	"lethe/agree"
	"lethe/api"
	"lethe/curve"
	"lethe/ratchet"
	"lethe/state"
)

// side: one of two who talk, as its client would keep it.
type side struct {
	s    api.State
	list []api.Skipped
}

// letter: on its way.
type letter struct {
	to   int
	h    api.Header
	body []byte
}

func drawnPair(t *testing.T, r *rand.Rand) api.Pair {
	t.Helper()
	draw := make([]byte, 32)
	r.Read(draw)
	p, e := curve.NewPair(draw)
	if e != api.OK {
		t.Fatal(e)
	}
	return p
}

// twoSides: behind an agreement; the first has a hello that goes along.
func twoSides(t *testing.T, r *rand.Rand) [2]side {
	t.Helper()
	a, once, b, prekey, turn := drawnPair(t, r), drawnPair(t, r), drawnPair(t, r), drawnPair(t, r), drawnPair(t, r)
	secret, sid, bind, hello, e := agree.Start(a, once, api.Offer{Identity: b.Pub, Prekey: 1 + r.Uint32()%9, Key: prekey.Pub})
	if e != api.OK {
		t.Fatal(e)
	}
	first, e := ratchet.Begin(secret, sid, bind, turn, prekey.Pub)
	if e != api.OK {
		t.Fatal(e)
	}
	first.Hello = hello
	return [2]side{{s: first}, {s: ratchet.Answer(secret, sid, bind, prekey)}}
}

// Which states may be: chapter 16 makes no others. So whatever two say to each other, in whatever order it comes, each state on the way may be, and comes back from its bytes; and they go on with what came back.
func TestStatesOfARatchet(t *testing.T) {
	limits := api.Limits{Peers: 1, Prekeys: 1, Skip: 4, Skips: 8, Outbox: 1, Counter: 7}
	seen := map[string]int{}
	for seed := range int64(12) {
		r := rand.New(rand.NewSource(seed))
		sides := twoSides(t, r)
		var way []letter
		for step := range 60 {
			for i := range sides {
				what := fmt.Sprintf("seed %d, step %d, side %d", seed, step, i)
				isChecked(t, what, sides[i].s, 0)
				b, _ := state.Encode(sides[i].s)
				sides[i].s, _ = state.Decode(b)
			}
			who := r.Intn(2)
			if next, h, body, e := ratchet.Send(sides[who].s, limits.Counter, []byte("text"), nil); e == api.OK && r.Intn(2) == 0 {
				sides[who].s = next
				way = append(way, letter{1 - who, h, body})
				seen["sent"]++
			}
			if len(way) == 0 || r.Intn(3) == 0 {
				continue
			}
			n := r.Intn(len(way))
			l := way[n]
			var draw api.Key
			r.Read(draw[:])
			next, list, _, e := ratchet.Receive(sides[l.to].s, sides[l.to].list, limits, l.h, l.body, nil, draw)
			if e == api.OK {
				sides[l.to] = side{next, list}
				way = append(way[:n], way[n+1:]...)
				seen["taken"]++
			}
		}
		if sides[0].s.Own > 2 {
			seen["turns"]++
		}
	}
	if seen["sent"] < 100 || seen["taken"] < 80 || seen["turns"] < 4 {
		t.Errorf("too little was said: %v", seen)
	}
}

// P18.7: two states that may be, and differ in anything, have other bytes; and neither's bytes begin with the other's.
func TestUnlikeStatesUnlikeBytes(t *testing.T) {
	r := rand.New(rand.NewSource(7))
	states := map[string]api.State{}
	for range 20000 {
		s := drawnState(r)
		b, e := state.Encode(s)
		if e != api.OK {
			continue
		}
		if other, there := states[string(b)]; there && other != s {
			t.Fatalf("P18.7: two states of one form:\n%+v\n%+v", s, other)
		}
		states[string(b)] = s
	}
	for what, s := range forms() {
		b, _ := state.Encode(s)
		for n := range b {
			if _, e := state.Decode(b[:n]); e == api.OK {
				t.Errorf("P18.7: %s: its first %d bytes are a state too", what, n)
			}
		}
	}
}

// P18.8: the longest form has 298 bytes; that of a hello behind a turn, which would have more, may not be.
func TestItFits(t *testing.T) {
	longest := 0
	for _, s := range forms() {
		b, _ := state.Encode(s)
		longest = max(longest, len(b))
	}
	if longest != 298 || longest > 330 || longest > api.MaxValue {
		t.Errorf("P18.8: the longest form has %d bytes", longest)
	}
	s := greeting()
	s.Turns, s.RecvKey, s.Got = 1, key(7), 5
	b := wordsBytes(s, 1)
	if len(b) != 334 {
		t.Fatalf("the form of a hello behind a turn has %d bytes", len(b))
	}
	isDecoded(t, "a hello behind a turn", b, 180)
	isDecoded(t, "a hello behind a turn, cut", b[:333], 10)
	isDecoded(t, "a hello behind a turn, and a byte", joined(b, []byte{0}), 11)
	isChecked(t, "a hello behind a turn", s, 180)
}
