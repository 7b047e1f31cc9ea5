package ratchet_test

import (
	"fmt"
	"math"
	"slices"
	"testing"

	"lethe/api"
)

// three: a message of each kind, each of which opens: of an old turn, of the turn that goes on, of a new turn, of the first turn.
func three() map[string]given {
	list := []api.Skipped{skipped(0, 3, key(1)), skipped(1, 0, key(2)), skipped(1, 9, key(3)), skipped(2, 1, key(4))}
	return map[string]given{
		"old":      place(3, 4, api.Header{Turn: 1, Prev: 77, N: 9}, list...),
		"goes on":  place(3, 4, api.Header{Turn: 2, Prev: 77, N: 6}, list...),
		"new turn": place(3, 4, api.Header{Turn: 3, Prev: 5, N: 1}, list...),
		"first":    place(0, 4, api.Header{N: 1}, skipped(1, 0, key(2)), skipped(1, 9, key(3))),
	}
}

// P16.1: all limits that Skip and Skips may have, and those beside them; the limits that are not looked at may be any.
func TestReceiveLimits(t *testing.T) {
	far := []int{math.MinInt, math.MinInt + 64, -1 << 32, -1<<32 + 5, -257, -256, -65, -64, -1, 257, 258, 512, 1 << 16, 1<<31 - 1, 1 << 31, 1 << 32, 1<<32 + 5, math.MaxInt}
	for what, g := range three() {
		for _, x := range append(far, 65, 66, 128, 256) {
			g := g
			g.lim.Skip = x
			isRefused(t, fmt.Sprintf("%s, Skip %d", what, x), api.ErrLimits, g)
			g.data = make([]byte, 65)
			isRefused(t, fmt.Sprintf("%s, Skip %d, and long data", what, x), api.ErrLimits, g)
		}
		for _, x := range far {
			g := g
			g.lim.Skips = x
			isRefused(t, fmt.Sprintf("%s, Skips %d", what, x), api.ErrLimits, g)
			g.lim.Skip = 64
			g.h.Sid[3] ^= 1
			isRefused(t, fmt.Sprintf("%s, Skips %d, and another sid", what, x), api.ErrLimits, g)
		}
		for _, x := range []int{math.MinInt, -1, 0, 1, 65, math.MaxInt} {
			g := g
			g.lim.Peers, g.lim.Prekeys, g.lim.Outbox = x, x, x
			isOpened(t, fmt.Sprintf("%s, Peers, Prekeys and Outbox %d", what, x), g)
		}
		for skip := range 65 {
			g.lim.Skip = skip
			isTold(t, fmt.Sprintf("%s, Skip %d", what, skip), g)
		}
		g.lim.Skip = 64
		for skips := range 257 {
			g.lim.Skips = skips
			isTold(t, fmt.Sprintf("%s, Skips %d", what, skips), g)
		}
	}
}

// P16.1: data of every length up to one beyond, and far longer.
func TestReceiveData(t *testing.T) {
	for what, g := range three() {
		for _, n := range []int{0, 1, 31, 32, 63, 64} {
			g.data = make([]byte, n)
			isOpened(t, fmt.Sprintf("%s, data of %d bytes", what, n), g.refit())
		}
		for _, n := range []int{65, 66, 128, 256, 320, 1 << 16, 1 << 20} {
			g.data = make([]byte, n)
			isRefused(t, fmt.Sprintf("%s, data of %d bytes", what, n), api.ErrLong, g.refit())
		}
	}
}

// P16.1: lists that are not in order, at each place: one that stands twice, one that falls by number, or by turn.
func TestReceiveOrder(t *testing.T) {
	for what, g := range three() {
		for at := 1; at < 8; at++ {
			for i, wrong := range []func(ahead api.Skipped) api.Skipped{
				func(x api.Skipped) api.Skipped { return x },
				func(x api.Skipped) api.Skipped { return skipped(x.Turn, x.N, key(99)) },
				func(x api.Skipped) api.Skipped { return skipped(x.Turn, x.N-1, key(99)) },
				func(x api.Skipped) api.Skipped { return skipped(x.Turn, 0, x.Key) },
				func(x api.Skipped) api.Skipped { return skipped(x.Turn-1, x.N, key(99)) },
				func(x api.Skipped) api.Skipped { return skipped(x.Turn-1, x.N+1, key(99)) },
				func(x api.Skipped) api.Skipped { return skipped(x.Turn-1, last, key(99)) },
				func(x api.Skipped) api.Skipped { return skipped(0, last, key(99)) },
			} {
				g := g
				g.skipped = rising(1<<31, 1<<31, 8)
				g.skipped[at] = wrong(g.skipped[at-1])
				isRefused(t, fmt.Sprintf("%s, kind %d at %d", what, i, at), api.ErrOrder, g)
				g.h.Sid = api.Sid{}
				isRefused(t, fmt.Sprintf("%s, kind %d at %d, and another sid", what, i, at), api.ErrOrder, g)
			}
		}
	}
}

// P16.1: any list in order is taken: whose numbers fall from turn to turn, at the ends of what numbers may be, longer than any bound (where no key comes to it).
func TestReceiveAnyList(t *testing.T) {
	lists := [][]api.Skipped{
		nil, {},
		{skipped(50, 9, key(1)), skipped(51, 8, key(2)), skipped(52, 0, key(3))},
		{skipped(50, 0, api.Key{}), skipped(50, last, api.Key{}), skipped(last, 0, key(1)), skipped(last, last, key(1))},
		rising(60, last-999, 1000),
	}
	for i, list := range lists {
		old := slices.Concat([]api.Skipped{skipped(0, 7, key(9))}, list)
		a := isOpened(t, "old", place(50, 4, api.Header{Turn: 0, N: 7}, old...))
		if !slices.Equal(a.skipped, list) {
			t.Errorf("P16.1: list %d: %x are left", i, a.skipped)
		}
		a = isOpened(t, "goes on", place(50, 4, api.Header{Turn: 49, N: 4}, list...))
		if !slices.Equal(a.skipped, list) {
			t.Errorf("P16.1: list %d: %x are left", i, a.skipped)
		}
		if i != 3 { // that one has the message's own place
			a = isOpened(t, "new turn", place(50, 4, api.Header{Turn: 50, Prev: 4}, list...))
			if !slices.Equal(a.skipped, list) {
				t.Errorf("P16.1: list %d: %x are left", i, a.skipped)
			}
		}
	}
}

// P16.1: a sid that is another one in a single bit, whichever it is; and a state of which the sid is zero.
func TestReceiveSession(t *testing.T) {
	for what, g := range three() {
		for bit := range 128 {
			g := g
			g.h.Sid[bit/8] ^= 1 << (bit % 8)
			isRefused(t, fmt.Sprintf("%s, bit %d of the sid", what, bit), api.ErrSession, g)
		}
		g.s.Sid, g.h.Sid = api.Sid{}, api.Sid{}
		isOpened(t, what+", a sid of zeros", g.refit())
		g.h.Sid[15] = 1
		isRefused(t, what+", against a sid of zeros", api.ErrSession, g)
	}
}

// P16.1: a body that is too short, too long, or has another tag, and the longest one that there may be.
func TestReceiveBody(t *testing.T) {
	for what, g := range three() {
		right := g.body
		for n := range 32 {
			g.body = right[:n]
			isRefused(t, fmt.Sprintf("%s, a body of %d bytes", what, n), api.ErrShort, g)
		}
		for _, n := range []int{545, 546, 1024, 1 << 16, 1 << 20} {
			g.body = make([]byte, n)
			isRefused(t, fmt.Sprintf("%s, a body of %d bytes", what, n), api.ErrLong, g)
		}
		for _, n := range []int{32, 33, 100, 544} {
			g.body = make([]byte, n)
			isRefused(t, fmt.Sprintf("%s, %d zero bytes", what, n), api.ErrTag, g)
		}
		for _, n := range []int{0, 1, 16, 511, 512} {
			g.body = fitting(g, slices.Repeat([]byte{3}, n))
			if a := isTold(t, what, g); a.e != api.OK || len(a.text) != n {
				t.Errorf("P16.1: %s, a text of %d bytes: error %d, %d bytes", what, n, a.e, len(a.text))
			}
		}
	}
}
