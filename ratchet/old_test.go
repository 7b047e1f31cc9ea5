package ratchet_test

import (
	"fmt"
	"slices"
	"testing"

	"lethe/api"
)

// Rule 9, P16.1: which places are old ones: those of turns that are over, and those below Got of the one that goes on. With no key there: ErrOld, ahead of any look at the body.
func TestOldPlaces(t *testing.T) {
	for _, c := range []struct {
		turns, got, turn, n uint32
	}{
		{1, 1, 0, 0}, {1, 5, 0, 4}, {1, last, 0, last - 1}, {2, 0, 0, 0}, {2, 0, 0, last}, {2, 7, 1, 6}, {9, 7, 7, 7}, {9, 7, 7, last}, {9, 7, 8, 0}, {9, 7, 8, 6}, {9, 7, 0, 0},
		{1 << 31, 0, 1<<31 - 2, 0}, {last, 0, last - 2, 9}, {last, 9, last - 1, 8}, {last, 0, 0, last}, {last, 0, 1, 1},
	} {
		what := fmt.Sprintf("Turns %d, Got %d: %d.%d", c.turns, c.got, c.turn, c.n)
		g := place(c.turns, c.got, api.Header{Turn: c.turn, N: c.n})
		isRefused(t, what, api.ErrOld, g)
		g.skipped = []api.Skipped{skipped(c.turn, c.n, key(5))}
		a := isOpened(t, what+", with its key", g.refit())
		if len(a.skipped) > 0 {
			t.Errorf("P16.1: %s: its key is still there", what)
		}
		for _, lone := range [][2]uint32{{c.turn, c.n - 1}, {c.turn, c.n + 1}, {c.turn + 1, c.n}, {c.turn - 1, c.n}, {c.n, c.turn}} {
			if lone == [2]uint32{c.turn, c.n} {
				continue
			}
			g.skipped = []api.Skipped{skipped(lone[0], lone[1], key(5))}
			isRefused(t, what+", with another one's key", api.ErrOld, g)
			for _, body := range [][]byte{nil, make([]byte, 31), make([]byte, 32), make([]byte, 545)} {
				g.body = body
				isRefused(t, what+", with another one's key and body", api.ErrOld, g)
			}
		}
	}
}

// P16.1: the places beside those: not old, whatever skipped keys there are.
func TestNotOldPlaces(t *testing.T) {
	for _, c := range []struct {
		turns, got, turn, n uint32
		want                api.Errno
	}{
		{0, 0, 0, 0, api.ErrTwice}, {0, 9, 0, 3, api.ErrTwice}, {0, 9, 1, 3, api.ErrTurn}, {0, 9, last, 3, api.ErrTurn}, {0, 9, last - 1, 0, api.ErrTurn},
		{1, 0, 0, 0, api.ErrTwice}, {1, 5, 0, 5, api.ErrTwice}, {1, 5, 0, 6, api.ErrTwice}, {1, 0, 1, 0, api.ErrTwice}, {1, 5, 2, 0, api.ErrTurn}, {1, 5, last, 0, api.ErrTurn},
		{last, 0, last - 1, 0, api.ErrTwice}, {last, 5, last, 0, api.ErrCounter}, {last - 1, 5, last, 0, api.ErrTurn}, {1, last, 0, last, api.ErrCounter},
	} {
		g := place(c.turns, c.got, api.Header{Turn: c.turn, N: c.n}, skipped(c.turn, c.n, key(5)))
		if c.turns > 0 && c.turn == c.turns {
			g.h.Prev = c.got
		}
		isRefused(t, fmt.Sprintf("Turns %d, Got %d: %d.%d", c.turns, c.got, c.turn, c.n), c.want, g.refit())
	}
}

// P16.1: behind an old message the state is as it was, but for Hello; the list has that key no more, wherever it stood.
func TestOldAnswers(t *testing.T) {
	list := slices.Concat(rising(0, 5, 3), rising(2, 0, 4), rising(9, last-1, 2))
	for at, x := range list {
		g := place(10, 6, api.Header{Turn: x.Turn, N: x.N}, list...)
		if x.Turn == 9 {
			g.s.Turns = 11
			g = g.refit()
		}
		a := isOpened(t, fmt.Sprintf("key %d", at), g)
		want := g.s
		want.Hello = api.Hello{}
		if a.s != want {
			t.Errorf("P16.1: key %d: the state is %+v, want %+v", at, a.s, want)
		}
		if left := slices.Concat(list[:at], list[at+1:]); !slices.Equal(a.skipped, left) {
			t.Errorf("P16.1: key %d: %x are left, want %x", at, a.skipped, left)
		}
	}
}

// P16.1: of an old message's header no field but its place is looked at, and no limit binds it: the tag alone.
func TestOldHeaders(t *testing.T) {
	for _, k := range append(lowKeys(), pair(33).Pub, key(5)) {
		for _, prev := range []uint32{0, 1, 70, 1 << 31, last} {
			g := place(3, 4, api.Header{Turn: 1, Prev: prev, N: 1 << 30}, slices.Concat(rising(1, 1<<30, 1), rising(7, 0, 300))...)
			g.h.Key = k
			g.lim = api.Limits{}
			g.s.Own = last
			isOpened(t, fmt.Sprintf("Prev %d, Key %x", prev, k), g.refit())
			isRefused(t, "the body of another header", api.ErrTag, given{g.s, g.skipped, g.lim, g.h, make([]byte, 40), g.data, g.draw})
		}
	}
}
