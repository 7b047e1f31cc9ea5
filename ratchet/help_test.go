package ratchet_test

import (
	"bytes"
	"math"
	"math/rand"
	"slices"
	"testing"

	"lethe/api"
	"lethe/ratchet"
)

const last = math.MaxUint32

// key: one that no other number has.
func key(n int) api.Key { return api.Key{0: byte(n), 1: byte(n >> 8), 31: byte(n)%100 + 1} }

func pair(n int) api.Pair { return wordsPair(key(n)) }

func skipped(turn, n uint32, k api.Key) api.Skipped { return api.Skipped{Turn: turn, N: n, Key: k} }

// rising: so many entries of one turn, from number first on.
func rising(turn, first uint32, count int) []api.Skipped {
	var list []api.Skipped
	for i := range count {
		list = append(list, skipped(turn, first+uint32(i), key(i)))
	}
	return list
}

// wide: limits that refuse nothing that may be.
func wide() api.Limits { return api.Limits{Skip: 64, Skips: 256, Counter: last} }

// lowKeys: those of which every shared secret is all zeros, in all their forms.
func lowKeys() []api.Key {
	ff := api.Key(bytes.Repeat([]byte{0xff}, 32))
	minusOne, p, one, two := ff, ff, api.Key{1}, ff
	minusOne[0], minusOne[31] = 0xec, 0x7f
	p[0], p[31] = 0xed, 0x7f
	two[0], two[31] = 0xee, 0x7f // p + 1
	roots := []api.Key{
		{0xe0, 0xeb, 0x7a, 0x7c, 0x3b, 0x41, 0xb8, 0xae, 0x16, 0x56, 0xe3, 0xfa, 0xf1, 0x9f, 0xc4, 0x6a, 0xda, 0x09, 0x8d, 0xeb, 0x9c, 0x32, 0xb1, 0xfd, 0x86, 0x62, 0x05, 0x16, 0x5f, 0x49, 0xb8, 0x00},
		{0x5f, 0x9c, 0x95, 0xbc, 0xa3, 0x50, 0x8c, 0x24, 0xb1, 0xd0, 0xb1, 0x55, 0x9c, 0x83, 0xef, 0x5b, 0x04, 0x44, 0x5c, 0xc4, 0x58, 0x1c, 0x8e, 0x86, 0xd8, 0x22, 0x4e, 0xdd, 0xd0, 0x9f, 0x11, 0x57},
	}
	var all []api.Key
	for _, k := range append(roots, api.Key{}, one, minusOne, p, two) {
		high := k
		high[31] |= 0x80
		all = append(all, k, high)
	}
	return all
}

// place: a state in the midst of a session, with a message that opens in it. Its numbers are those that the test asks for, its keys any.
func place(turns, got uint32, h api.Header, list ...api.Skipped) given {
	g := given{
		s: api.State{
			Sid: api.Sid{1, 15: 2}, Root: key(31), Pair: pair(32), Peer: pair(33).Pub, SendKey: key(34), RecvKey: key(35),
			Own: 4, Turns: turns, Sent: 6, Got: got, Prev: 8, Serial: 19,
			Hello: api.Hello{Identity: key(36), Once: key(37), Prekey: 38}, Bind: [64]byte{0: 39, 63: 40},
		},
		skipped: list, lim: wide(), h: h, data: []byte("data"), draw: key(41),
	}
	g.h.Sid = g.s.Sid
	g.h.Key = g.s.Peer
	if h.Turn == turns {
		g.h.Key = pair(42).Pub
	}
	g.body = fitting(g, []byte("text"))
	return g
}

// refit: the same with a body that opens, behind a change of what it is bound to.
func (g given) refit() given {
	g.body = fitting(g, []byte("text"))
	return g
}

// asked: what Receive answers.
func (g given) asked() answer {
	s, list, text, e := ratchet.Receive(g.s, g.skipped, g.lim, g.h, g.body, g.data, g.draw)
	return answer{s, list, text, e}
}

func same(a, b answer) bool {
	return a.s == b.s && slices.Equal(a.skipped, b.skipped) && bytes.Equal(a.text, b.text) && a.e == b.e
}

// isTold: Receive answers what the words say, and leaves what it was handed.
func isTold(t *testing.T, what string, g given) answer {
	t.Helper()
	list, body, data := slices.Clone(g.skipped), slices.Clone(g.body), slices.Clone(g.data)
	got, want := g.asked(), wordsReceive(g)
	if !same(got, want) {
		t.Errorf("P16.1: %s: Receive answers error %d, text %q, skipped keys %x, %+v\nwant %d, %q, %x, %+v", what, got.e, got.text, got.skipped, got.s, want.e, want.text, want.skipped, want.s)
	}
	if !slices.Equal(list, g.skipped) || !bytes.Equal(body, g.body) || !bytes.Equal(data, g.data) {
		t.Errorf("P16.1: %s: Receive has changed what it was handed", what)
	}
	return got
}

func isRefused(t *testing.T, what string, code api.Errno, g given) {
	t.Helper()
	if got := isTold(t, what, g); got.e != code || got.s != (api.State{}) || len(got.skipped) > 0 || len(got.text) > 0 {
		t.Errorf("P16.1: %s: error %d, want %d and nothing else", what, got.e, code)
	}
}

func isOpened(t *testing.T, what string, g given) answer {
	t.Helper()
	got := isTold(t, what, g)
	if got.e != api.OK || string(got.text) != "text" {
		t.Errorf("P16.1: %s: error %d, text %q", what, got.e, got.text)
	}
	return got
}

// fault: what a call is refused for, and how it is brought about.
type fault struct {
	code api.Errno
	make func(g *given)
}

// areToldInOrder: each set of the faults together: the answer is the one that is named first.
func areToldInOrder(t *testing.T, what string, base given, faults []fault) {
	t.Helper()
	for set := range 1 << len(faults) {
		g, want := base, api.OK
		g.skipped, g.body = slices.Clone(base.skipped), slices.Clone(base.body)
		for i, f := range faults {
			if set>>i&1 == 1 {
				f.make(&g)
				if want == api.OK {
					want = f.code
				}
			}
		}
		got := isTold(t, what, g)
		if got.e != want {
			t.Errorf("P16.1: %s: the faults of set %b together: error %d, want %d", what, set, got.e, want)
		}
		if t.Failed() {
			return
		}
	}
}

// Drawn things: they hang on the seed alone.

func drawnKey(r *rand.Rand) api.Key {
	var k api.Key
	r.Read(k[:])
	return k
}

func drawnBytes(r *rand.Rand, n int) []byte {
	b := make([]byte, n)
	r.Read(b)
	return b
}

func oneOf[T any](r *rand.Rand, list ...T) T { return list[r.Intn(len(list))] }

// whole: a list with its spare room.
func whole[T any](list []T) []T { return list[:cap(list)] }

// roomy: the same in the midst of a longer one; all of it.
func roomy[T any](list []T, around T) (inside, all []T) {
	all = append([]T{around, around}, list...)
	all = append(all, around, around, around)
	return all[2 : 2+len(list)], all
}
