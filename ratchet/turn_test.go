package ratchet_test

import (
	"fmt"
	"slices"
	"testing"

	"lethe/api"
)

// P16.1: a new turn: each field of the state behind it, and the skipped keys of both turns, by the right chains.
func TestNewTurn(t *testing.T) {
	for _, c := range []struct {
		turns, got, prev, n uint32
	}{
		{0, 0, 0, 0}, {0, 0, 0, 3}, {0, 9, 0, 3}, {1, 4, 4, 0}, {1, 4, 7, 0}, {1, 0, 3, 2}, {3, 0, 0, 5}, {3, 9, 11, 1}, {3, 0, 64, 64}, {last - 2, last - 9, last - 1, 6},
	} {
		what := fmt.Sprintf("Turns %d, Got %d, Prev %d, number %d", c.turns, c.got, c.prev, c.n)
		g := place(c.turns, c.got, api.Header{Turn: c.turns, Prev: c.prev, N: c.n})
		a := isOpened(t, what, g)
		pair := wordsPair(g.draw)
		one, _ := wordsShared(g.s.Pair.Priv, g.h.Key)
		two, _ := wordsShared(pair.Priv, g.h.Key)
		root, first := wordsRoot(g.s.Root, one)
		want := api.State{Sid: g.s.Sid, Pair: pair, Peer: g.h.Key, Own: 5, Turns: c.turns + 1, Sent: 0, Got: c.n + 1, Prev: 6, Serial: 19, Bind: g.s.Bind}
		want.Root, want.SendKey = wordsRoot(root, two)
		_, want.RecvKey = wordsChain(first, int64(c.n))
		if a.s != want {
			t.Errorf("P16.1: %s: the state is %+v, want %+v", what, a.s, want)
		}
		var list []api.Skipped
		for n := c.got; c.turns > 0 && n < c.prev; n++ {
			k, _ := wordsChain(g.s.RecvKey, int64(n-c.got))
			list = append(list, skipped(c.turns-1, n, k))
		}
		for n := range c.n {
			k, _ := wordsChain(first, int64(n))
			list = append(list, skipped(c.turns, n, k))
		}
		if !slices.Equal(a.skipped, list) {
			t.Errorf("P16.1: %s: the skipped keys are %x, want %x", what, a.skipped, list)
		}
	}
}

// P16.1: each draw gives its own pair, clamped or not, and the message opens all the same.
func TestNewTurnDraws(t *testing.T) {
	for _, draw := range append(lowKeys(), api.Key{}, key(1), key(2)) {
		g := place(3, 4, api.Header{Turn: 3, Prev: 4})
		g.draw = draw
		if a := isOpened(t, fmt.Sprintf("draw %x", draw), g); a.s.Pair != wordsPair(draw) {
			t.Errorf("P16.1: draw %x: the pair is %x", draw, a.s.Pair)
		}
	}
}

// P16.1: which turns are new ones, at the ends of what turns may be.
func TestNewTurnNumbers(t *testing.T) {
	for _, turns := range []uint32{0, 1, 2, 1<<31 - 1, 1 << 31, last - 2, last - 1, last} {
		for _, ahead := range []uint32{0, 1, 2, 3, 1 << 30, last - turns} {
			turn := turns + ahead
			if turn < turns {
				continue
			}
			g := place(turns, 0, api.Header{Turn: turn})
			want := api.OK
			if turn > turns {
				want = api.ErrTurn
			} else if turn == last {
				want = api.ErrCounter
			}
			if a := isTold(t, "turns", g); a.e != want {
				t.Errorf("P16.1: Turns %d, turn %d: error %d, want %d", turns, turn, a.e, want)
			}
		}
	}
}

// P16.1: Prev against Got, Counter and Skip: on both sides of each, and where numbers are as far from one another as they may be.
func TestNewTurnPrev(t *testing.T) {
	for _, c := range []struct {
		turns, got, prev uint32
		skip             int
		counter          uint32
		want             api.Errno
	}{
		{0, 0, 0, 0, 1, api.OK}, {0, 5, 0, 0, 1, api.OK}, {0, 0, 1, 64, 9, api.ErrHeader}, {0, 0, last, 64, 9, api.ErrHeader}, {0, 5, 5, 64, 9, api.ErrHeader}, {0, 0, 1 << 31, 0, last, api.ErrHeader},
		{1, 5, 4, 64, 9, api.ErrHeader}, {1, 5, 0, 64, 9, api.ErrHeader}, {1, 5, 5, 0, 9, api.OK}, {1, 5, 6, 0, 9, api.ErrSkip}, {1, 5, 6, 1, 9, api.OK}, {1, 5, 7, 1, 9, api.ErrSkip},
		{1, 5, 9, 4, 9, api.OK}, {1, 5, 10, 64, 9, api.ErrCounter}, {1, 5, 10, 0, 9, api.ErrCounter}, {1, 12, 11, 64, 9, api.ErrHeader}, {1, 12, 12, 64, 9, api.ErrCounter}, {1, 9, 9, 0, 9, api.OK},
		{1, 0, 64, 64, last, api.OK}, {1, 0, 65, 64, last, api.ErrSkip}, {1, 0, 1 << 31, 64, last, api.ErrSkip}, {1, 0, last, 64, last, api.ErrSkip}, {1, 0, 1<<31 + 3, 64, last, api.ErrSkip},
		{1, last, last, 0, last, api.OK}, {1, last, last - 1, 64, last, api.ErrHeader}, {1, last, 0, 64, last, api.ErrHeader}, {1, last - 64, last, 64, last, api.OK}, {1, last - 65, last, 64, last, api.ErrSkip},
		{1, last, last, 0, last - 1, api.ErrCounter}, {1, 1 << 31, 1<<31 - 1, 64, last, api.ErrHeader},
	} {
		g := place(c.turns, c.got, api.Header{Turn: c.turns, Prev: c.prev})
		g.s.Own = 0
		g.lim.Skip, g.lim.Counter = c.skip, max(c.counter, c.turns+1)
		if a := isTold(t, fmt.Sprint(c), g); a.e != c.want {
			t.Errorf("P16.1: Turns %d, Got %d, Prev %d, Skip %d, Counter %d: error %d, want %d", c.turns, c.got, c.prev, c.skip, c.counter, a.e, c.want)
		}
	}
}

// P16.1: the number against Skip and Counter, the turn against Counter, Own against Counter.
func TestNewTurnBounds(t *testing.T) {
	for _, turns := range []uint32{0, 1, 4} {
		for skip := range uint32(65) {
			g := place(turns, 3, api.Header{Turn: turns, Prev: min(turns, 1) * 3, N: skip})
			g.lim.Skip = int(skip)
			isOpened(t, fmt.Sprintf("Turns %d, Skip %d, as many missing", turns, skip), g)
			g.h.N++
			isRefused(t, fmt.Sprintf("Turns %d, Skip %d, one more missing", turns, skip), api.ErrSkip, g.refit())
		}
	}
	for _, c := range []struct {
		turns, n, own, counter uint32
		want                   api.Errno
	}{
		{0, 0, 0, 0, api.ErrCounter}, {0, 0, 0, 1, api.OK}, {0, 0, 1, 1, api.ErrCounter}, {0, 1, 0, 1, api.ErrCounter}, {0, 1, 1, 2, api.OK}, {1, 0, 0, 1, api.ErrCounter},
		{4, 4, 4, 5, api.OK}, {5, 4, 4, 5, api.ErrCounter}, {4, 5, 4, 5, api.ErrCounter}, {4, 4, 5, 5, api.ErrCounter}, {4, 4, 6, 5, api.ErrCounter}, {4, 4, last, 5, api.ErrCounter},
		{last - 1, 0, last - 1, last, api.OK}, {last - 1, 0, last, last, api.ErrCounter}, {last, 0, 0, last, api.ErrCounter}, {4, 65, 0, last, api.ErrSkip}, {4, last - 1, 0, last, api.ErrSkip}, {4, 1 << 31, 0, last, api.ErrSkip}, {4, last, 0, last, api.ErrCounter},
	} {
		g := place(c.turns, 0, api.Header{Turn: c.turns, N: c.n})
		g.s.Own, g.lim.Counter = c.own, c.counter
		if a := isTold(t, fmt.Sprint(c), g); a.e != c.want {
			t.Errorf("P16.1: turn %d, number %d, Own %d, Counter %d: error %d, want %d", c.turns, c.n, c.own, c.counter, a.e, c.want)
		}
	}
}

// P16.1: Sent and Serial at Counter, or beyond, don't stand in a new turn's way: they bind Send alone.
func TestNewTurnUnseen(t *testing.T) {
	g := place(3, 4, api.Header{Turn: 3, Prev: 4})
	g.s.Sent, g.s.Serial, g.s.Prev, g.lim.Counter = last, last, last, 5
	if a := isOpened(t, "counters at their ends", g); a.s.Prev != last || a.s.Sent != 0 || a.s.Serial != last {
		t.Errorf("P16.1: Prev %d, Sent %d, Serial %d", a.s.Prev, a.s.Sent, a.s.Serial)
	}
}

// P16.1: ErrSkips on both sides of Skips, the new keys being of either turn, or of both.
func TestNewTurnSkips(t *testing.T) {
	for _, held := range []int{0, 1, 128, 192, 255, 256, 257, 600} {
		for _, missing := range [][2]uint32{{0, 0}, {1, 0}, {0, 1}, {1, 1}, {64, 64}, {0, 64}, {64, 0}} {
			for _, beside := range []int{-1, 0, 1} {
				fresh := int(missing[0] + missing[1])
				g := place(3, 4, api.Header{Turn: 3, Prev: 4 + missing[0], N: missing[1]}, rising(1, 0, held)...)
				g.lim.Skips = min(max(held+fresh+beside, 0), 256)
				what := fmt.Sprintf("%d held, %v new ones, Skips %d", held, missing, g.lim.Skips)
				if fresh > 0 && held+fresh > g.lim.Skips {
					isRefused(t, what, api.ErrSkips, g)
				} else {
					isOpened(t, what, g)
				}
			}
		}
	}
}

// P16.1: ErrTwice just where a skipped key lies in one of the two gaps, or at the message's own place; else all are in order.
func TestNewTurnTwice(t *testing.T) {
	for turn := range uint32(6) {
		for n := range uint32(10) {
			what := fmt.Sprintf("%d.%d is there", turn, n)
			g := place(3, 4, api.Header{Turn: 3, Prev: 7, N: 2}, skipped(turn, n, key(5)))
			if turn == 2 && n >= 4 && n < 7 || turn == 3 && n <= 2 {
				isRefused(t, what, api.ErrTwice, g)
				continue
			}
			a := isOpened(t, what, g)
			if len(a.skipped) != 6 || !slices.Contains(a.skipped, g.skipped[0]) {
				t.Errorf("P16.1: %s: the skipped keys are %x", what, a.skipped)
			}
		}
	}
	isRefused(t, "the own place, without a gap", api.ErrTwice, place(3, 4, api.Header{Turn: 3, Prev: 4}, skipped(3, 0, key(5))))
	isRefused(t, "the own place of the first turn", api.ErrTwice, place(0, 4, api.Header{}, skipped(0, 0, key(5))))
	isOpened(t, "the first turn ends none", place(0, 4, api.Header{N: 1}, skipped(0, 2, key(5)), skipped(last, 4, key(6))))
}

// P16.1: each key of which the secret is all zeros: ErrPoint; the body is not looked at.
func TestNewTurnPoint(t *testing.T) {
	for _, low := range lowKeys() {
		for _, turns := range []uint32{0, 3} {
			g := place(turns, 0, api.Header{Turn: turns, N: 1})
			g.h.Key = low
			isRefused(t, fmt.Sprintf("the key %x", low), api.ErrPoint, g.refit())
			g.body = nil
			isRefused(t, fmt.Sprintf("the key %x, no body", low), api.ErrPoint, g)
		}
	}
	g := place(3, 0, api.Header{Turn: 3})
	g.s.Peer = g.h.Key
	isOpened(t, "the peer's key of the turn ahead: nothing rules it out", g)
}

// newTurnFaults: all of them, in the order in which they are told, around one way in which Prev may be wrong.
func newTurnFaults(prev, body fault) []fault {
	return slices.Concat(firstFaults()[1:], []fault{
		{api.ErrTurn, func(g *given) { g.h.Turn++ }},
		{api.ErrCounter, func(g *given) { g.lim.Counter = 2 }},
		prev,
		{api.ErrSkip, func(g *given) { g.h.N = 65 }},
		{api.ErrCounter, func(g *given) { g.s.Own = last }},
		{api.ErrSkips, func(g *given) { g.lim.Skips = min(g.lim.Skips, 3) }},
		{api.ErrTwice, func(g *given) { g.skipped = placed(g.skipped, skipped(g.s.Turns, 1, key(9))) }},
		{api.ErrPoint, func(g *given) { g.h.Key = api.Key{1} }},
		body,
	})
}

// P16.1: each set of the faults of a new turn's message, with each way in which Prev may be wrong.
func TestNewTurnFaultsTogether(t *testing.T) {
	prevs := []fault{
		{api.ErrHeader, func(g *given) { g.h.Prev = 3 }},
		{api.ErrCounter, func(g *given) { g.h.Prev = last; g.lim.Counter = min(g.lim.Counter, last-1) }},
		{api.ErrSkip, func(g *given) { g.s.Got = 0; g.h.Prev = 65 }},
	}
	later := place(3, 4, api.Header{Turn: 3, Prev: 8, N: 2}, skipped(0, 3, key(1)), skipped(1, 0, key(2)))
	for i, prev := range prevs {
		areToldInOrder(t, "a new turn", later, newTurnFaults(prev, bodies()[i]))
	}
	first := place(0, 4, api.Header{N: 2}, skipped(0, 5, key(1)), skipped(0, 6, key(2)))
	areToldInOrder(t, "the first turn", first, newTurnFaults(fault{api.ErrHeader, func(g *given) { g.h.Prev = 1 }}, bodies()[2]))
}
