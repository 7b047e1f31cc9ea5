package ratchet_test

import (
	"fmt"
	"math/rand"
	"slices"
	"testing"

	"lethe/api"
)

// near: a number beside one of those, or at an end of what numbers may be.
func near(r *rand.Rand, numbers ...uint32) uint32 {
	if r.Intn(12) == 0 {
		return oneOf(r, 0, 1, 1<<31, last-1, last, r.Uint32())
	}
	return oneOf(r, numbers...) + oneOf[uint32](r, 0, 0, 0, 1, 1, 2, 3, last, last-1)
}

// drawnList: keys at places near the state's, in order (or now and then not).
func drawnList(r *rand.Rand, s api.State, h api.Header) []api.Skipped {
	var list []api.Skipped
	for range oneOf(r, 0, 0, 1, 2, 3, 5, 40) {
		x := skipped(near(r, s.Turns, s.Turns-1, s.Turns-2, h.Turn), near(r, s.Got, h.N, h.Prev, 0), drawnKey(r))
		if r.Intn(3) == 0 {
			x = skipped(r.Uint32()%50, r.Uint32(), drawnKey(r))
		}
		if !slices.ContainsFunc(list, func(y api.Skipped) bool { return samePlace(x, y) }) {
			list = placed(list, x)
		}
	}
	if len(list) > 1 && r.Intn(25) == 0 {
		i := 1 + r.Intn(len(list)-1)
		list[i] = list[i-1]
	}
	if r.Intn(3) == 0 && !slices.ContainsFunc(list, func(y api.Skipped) bool { return samePlace(y, skipped(h.Turn, h.N, api.Key{})) }) {
		list = placed(list, skipped(h.Turn, h.N, drawnKey(r)))
	}
	return list
}

// drawnGiven: any state, list, limits and header, so near to one another that each answer comes now and then; the body fits, or not.
func drawnGiven(r *rand.Rand) given {
	g := given{s: drawnState(r), draw: drawnKey(r), data: drawnBytes(r, oneOf(r, 0, 0, 1, 5, 64, 64))}
	if r.Intn(30) == 0 {
		g.data = make([]byte, 65)
	}
	g.h = api.Header{Sid: g.s.Sid, Turn: oneOf(r, g.s.Turns, g.s.Turns-1, near(r, g.s.Turns-1)), Key: wordsPair(drawnKey(r)).Pub, N: near(r, 0, g.s.Got), Prev: near(r, 0, g.s.Got)}
	if r.Intn(2) == 0 {
		g.h.Prev = g.s.Got + uint32(r.Intn(4))
	}
	if g.s.Turns == 0 && r.Intn(3) > 0 {
		g.h.Prev = 0
	}
	if r.Intn(30) == 0 {
		g.h.Sid[r.Intn(16)] ^= 4
	}
	if g.h.Turn+1 == g.s.Turns && r.Intn(10) > 0 {
		g.h.Key = g.s.Peer
	}
	if r.Intn(6) == 0 {
		g.h.Key = oneOf(r, lowKeys()...)
	}
	g.lim = api.Limits{Skip: oneOf(r, 0, 1, 2, 3, 64, 64), Skips: oneOf(r, 0, 1, 2, 3, 5, 9, 64, 256), Counter: oneOf(r, last, last, last, near(r, g.h.N, g.h.Turn, g.h.Prev, g.s.Own))}
	if r.Intn(40) == 0 {
		g.lim.Skip, g.lim.Skips = oneOf(r, -1, 65, 3), oneOf(r, -1, 257, 3)
	}
	g.skipped = drawnList(r, g.s, g.h)
	switch g.body = fitting(g, drawnBytes(r, oneOf(r, 0, 1, 40, 512))); r.Intn(10) {
	case 0:
		g.body = flipped(g.body, r.Intn(8*len(g.body)))
	case 1:
		g.body = drawnBytes(r, oneOf(r, 0, 31, 32, 544, 545))
	}
	return g
}

// P16.1: at drawn arguments, in reach of every answer, the answers are those that the words say.
func TestDrawnCalls(t *testing.T) {
	r := rand.New(rand.NewSource(7))
	count := map[api.Errno]int{}
	for n := range 12000 {
		a := isTold(t, fmt.Sprintf("draw %d", n), drawnGiven(r))
		count[a.e]++
		if t.Failed() {
			return
		}
	}
	for _, code := range []api.Errno{0, 2, 5, 10, 50, 70, 111, 130, 150, 151, 160, 161, 162, 163, 164} {
		if count[code] < 20 {
			t.Errorf("error %d was drawn %d times alone", code, count[code])
		}
	}
}
