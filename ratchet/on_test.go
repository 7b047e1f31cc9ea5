package ratchet_test

import (
	"fmt"
	"slices"
	"testing"

	"lethe/api"
)

// P16.1: the turn goes on: all that the state is then, and the skipped keys, for every gap that there may be.
func TestTurnGoesOn(t *testing.T) {
	for missing := range uint32(65) {
		for _, got := range []uint32{0, 1, 9, 1 << 31, last - 1 - missing} {
			g := place(3, got, api.Header{Turn: 2, Prev: 1234, N: got + missing}, skipped(0, 5, key(1)), skipped(9, 0, key(2)))
			a := isOpened(t, fmt.Sprintf("Got %d, %d missing", got, missing), g)
			want := g.s
			_, want.RecvKey = wordsChain(g.s.RecvKey, int64(missing))
			want.Got, want.Hello = got+missing+1, api.Hello{}
			if a.s != want {
				t.Errorf("P16.1: Got %d, %d missing: the state is %+v, want %+v", got, missing, a.s, want)
			}
			if len(a.skipped) != int(missing)+2 {
				t.Fatalf("P16.1: Got %d, %d missing: %d skipped keys", got, missing, len(a.skipped))
			}
			for i, x := range a.skipped[1 : missing+1] {
				k, _ := wordsChain(g.s.RecvKey, int64(i))
				if x != skipped(2, got+uint32(i), k) {
					t.Errorf("P16.1: Got %d, %d missing: skipped key %d is %x", got, missing, i, x)
				}
			}
		}
	}
}

// P16.1: ErrSkip on both sides of Skip, and where the gap is as wide as numbers go.
func TestTurnGoesOnSkip(t *testing.T) {
	for skip := range uint32(65) {
		for _, got := range []uint32{0, 3, 1 << 31, last - 100} {
			g := place(1, got, api.Header{Turn: 0, N: got + skip})
			g.lim.Skip = int(skip)
			isOpened(t, fmt.Sprintf("Skip %d, as many missing", skip), g)
			g.h.N++
			isRefused(t, fmt.Sprintf("Skip %d, one more missing", skip), api.ErrSkip, g.refit())
		}
	}
	for _, n := range []uint32{65, 255, 256, 257, 1 << 16, 1<<31 - 1, 1 << 31, 1<<31 + 5, last - 1} {
		isRefused(t, fmt.Sprintf("number %d", n), api.ErrSkip, place(1, 0, api.Header{Turn: 0, N: n}))
	}
}

// P16.1: the key must be the peer's, to the last bit, though the highest one counts for nothing on the curve.
func TestTurnGoesOnKey(t *testing.T) {
	for bit := range 256 {
		g := place(3, 4, api.Header{Turn: 2, N: 6})
		g.h.Key[bit/8] ^= 1 << (bit % 8)
		isRefused(t, fmt.Sprintf("bit %d of the key", bit), api.ErrHeader, g.refit())
	}
	for _, low := range lowKeys() {
		g := place(3, 4, api.Header{Turn: 2, N: 6})
		g.s.Peer, g.h.Key = low, low
		isOpened(t, "a low key: no secret is made of it here", g.refit())
	}
}

// P16.1: Prev, Own and the pair are not looked at as long as the turn goes on; the draw isn't used.
func TestTurnGoesOnUnseen(t *testing.T) {
	for _, prev := range []uint32{0, 3, 4, 5, 70, last} {
		for _, own := range []uint32{0, 1, 9, last} {
			g := place(3, 4, api.Header{Turn: 2, Prev: prev, N: 6})
			g.s.Own, g.s.Pair, g.lim.Counter = own, api.Pair{}, 7
			a := isOpened(t, fmt.Sprintf("Prev %d, Own %d", prev, own), g.refit())
			g.draw = api.Key{}
			if b := g.refit().asked(); !same(a, b) {
				t.Errorf("P16.1: Prev %d, Own %d: the draw was used", prev, own)
			}
		}
	}
}

// P16.1: N and Turn on both sides of Counter.
func TestTurnGoesOnCounter(t *testing.T) {
	for _, c := range []struct {
		turns, got, n, counter uint32
		want                   api.Errno
	}{
		{1, 0, 0, 0, api.ErrCounter}, {1, 0, 0, 1, api.OK}, {1, 0, 1, 1, api.ErrCounter}, {1, 4, 4, 5, api.OK}, {1, 4, 5, 5, api.ErrCounter}, {1, 5, 5, 5, api.ErrCounter},
		{5, 0, 0, 5, api.OK}, {6, 0, 0, 5, api.ErrCounter}, {7, 0, 0, 5, api.ErrCounter}, {5, 4, 4, 5, api.OK}, {6, 4, 4, 5, api.ErrCounter},
		{last, 0, 0, last, api.OK}, {last, last - 1, last - 1, last, api.OK}, {1, last - 1, last, last, api.ErrCounter}, {1, last, last, last, api.ErrCounter},
		{1, 0, last, 5, api.ErrCounter}, {last, 0, 0, last - 1, api.ErrCounter}, {1, 1 << 31, 1 << 31, 1<<31 + 1, api.OK},
	} {
		g := place(c.turns, c.got, api.Header{Turn: c.turns - 1, N: c.n})
		g.lim.Counter = c.counter
		if a := isTold(t, fmt.Sprint(c), g); a.e != c.want {
			t.Errorf("P16.1: Turns %d, Got %d, number %d, Counter %d: error %d, want %d", c.turns, c.got, c.n, c.counter, a.e, c.want)
		}
	}
}

// P16.1: ErrSkips on both sides of Skips; without new keys the list may be longer than that.
func TestTurnGoesOnSkips(t *testing.T) {
	for _, held := range []int{0, 1, 5, 192, 200, 255, 256, 257, 1000} {
		for _, missing := range []int{0, 1, 2, 63, 64} {
			for _, skips := range []int{0, 1, held - 1, held, held + missing - 1, held + missing, held + missing + 1, 256} {
				g := place(3, 4, api.Header{Turn: 2, N: uint32(4 + missing)}, rising(1, 0, held)...)
				g.lim.Skips = min(max(skips, 0), 256)
				what := fmt.Sprintf("%d held, %d new ones, Skips %d", held, missing, g.lim.Skips)
				if missing > 0 && held+missing > g.lim.Skips {
					isRefused(t, what, api.ErrSkips, g)
				} else {
					isOpened(t, what, g)
				}
			}
		}
	}
}

// P16.1: ErrTwice just where a skipped key lies within the gap, or at the message's own place; else the new ones come in among the old.
func TestTurnGoesOnTwice(t *testing.T) {
	for turn := range uint32(5) {
		for n := range uint32(12) {
			what := fmt.Sprintf("%d.%d is there", turn, n)
			g := place(3, 4, api.Header{Turn: 2, N: 8}, skipped(turn, n, key(5)))
			if turn == 2 && n >= 4 && n <= 8 {
				isRefused(t, what, api.ErrTwice, g)
				g.skipped = slices.Concat(rising(0, 0, 3), g.skipped, rising(7, 0, 3))
				isRefused(t, what+", among others", api.ErrTwice, g)
				continue
			}
			a := isOpened(t, what, g)
			if len(a.skipped) != 5 || !slices.Contains(a.skipped, g.skipped[0]) {
				t.Errorf("P16.1: %s: the skipped keys are %x", what, a.skipped)
			}
		}
	}
	g := place(3, 4, api.Header{Turn: 2, N: 4}, skipped(2, 4, key(5)))
	isRefused(t, "the own place, without a gap", api.ErrTwice, g)
	g.skipped = []api.Skipped{skipped(2, 3, key(5)), skipped(2, 5, key(6))}
	isOpened(t, "on both sides of the own place, without a gap", g.refit())
}

// P16.1: each set of the faults of a message of the turn that goes on.
func TestTurnGoesOnFaultsTogether(t *testing.T) {
	base := place(3, 4, api.Header{Turn: 2, N: 8}, skipped(0, 3, key(1)), skipped(1, 0, key(2)))
	for _, body := range bodies() {
		areToldInOrder(t, "the turn goes on", base, append(append(firstFaults(),
			fault{api.ErrCounter, func(g *given) { g.lim.Counter = 8 }},
			fault{api.ErrHeader, func(g *given) { g.h.Key[31] ^= 0x80 }},
			fault{api.ErrSkip, func(g *given) { g.lim.Skip = min(g.lim.Skip, 3) }},
			fault{api.ErrSkips, func(g *given) { g.lim.Skips = min(g.lim.Skips, 5) }},
			fault{api.ErrTwice, func(g *given) { g.skipped = append(g.skipped, skipped(2, 7, key(9))) }},
		), body))
	}
}

// P16.1: each set of the faults of an old message.
func TestOldFaultsTogether(t *testing.T) {
	base := place(3, 4, api.Header{Turn: 1, N: 8}, skipped(0, 3, key(1)), skipped(1, 8, key(2)))
	for _, body := range bodies() {
		areToldInOrder(t, "old", base, append(append(firstFaults(),
			fault{api.ErrOld, func(g *given) { g.h.N = 7 }},
		), body))
	}
}

// firstFaults: those that are told ahead of a look at the message's place.
func firstFaults() []fault {
	return []fault{
		{api.ErrLimits, func(g *given) { g.lim.Skip = -1 }},
		{api.ErrLimits, func(g *given) { g.lim.Skips = -1 }},
		{api.ErrLong, func(g *given) { g.data = make([]byte, 65) }},
		{api.ErrOrder, func(g *given) { g.skipped = append(g.skipped[1:], g.skipped[0]) }},
		{api.ErrSession, func(g *given) { g.h.Sid[0] ^= 1 }},
	}
}

// bodies: the faults of a body: they are told last.
func bodies() []fault {
	return []fault{
		{api.ErrShort, func(g *given) { g.body = g.body[:31] }},
		{api.ErrLong, func(g *given) { g.body = make([]byte, 545) }},
		{api.ErrTag, func(g *given) { g.body[0] ^= 1 }},
	}
}
