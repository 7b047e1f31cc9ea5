package keyring_test

import (
	"fmt"
	"math"
	"math/rand"
	"testing"

	"lethe/api"
	"lethe/keyring"
)

// areRecords: P19.2, and what the calls make of a store with these records.
func areRecords(t *testing.T, what string, lim api.Limits, draw []byte) {
	t.Helper()
	got, e := keyring.Records(lim, draw)
	want, code := wordsRecords(lim, draw)
	if !sameList(got, want) || e != code {
		t.Errorf("P19.2: %s: %+v, %d bytes: %s, %d\nwant %s, %d", what, lim, len(draw), told(got), e, told(want), code)
	}
	if e != api.OK || t.Failed() {
		return
	}
	b := laidOut(t, got)
	if l, e := b.limits(what); e != api.OK || l != lim {
		t.Errorf("P19.3: %s: %+v, %d; want %+v", what, l, e, lim)
	}
	if p, e := b.identity(what); e != api.OK || p != wordsPair(draw) {
		t.Errorf("P19.4: %s: %x, %d", what, p, e)
	}
	b.areNumbers(what)
	b.isPublished(what, nil, 0)
	b.isPublished(what, draws(1, 1), 0, 1)
}

// P19.2: each limit at its bounds, beside them and far off, with draws of right and wrong lengths: the limits' error goes first.
func TestRecordsOfLimits(t *testing.T) {
	for place, bounds := range [][2]int{{1, 16}, {1, 64}, {0, 64}, {0, 256}, {1, 64}} {
		for _, n := range []int{math.MinInt, -1 << 32, -65535, -1, bounds[0] - 1, bounds[0], bounds[0] + 1, bounds[1] - 1, bounds[1], bounds[1] + 1, 65536 + bounds[1], 1<<32 + bounds[0], math.MaxInt} {
			lim := someLimits()
			*[]*int{&lim.Peers, &lim.Prekeys, &lim.Skip, &lim.Skips, &lim.Outbox}[place] = n
			for _, length := range []int{0, 31, 32, 33} {
				areRecords(t, fmt.Sprintf("place %d, number %d", place, n), lim, steps(0, length))
			}
		}
	}
	for _, n := range []uint32{0, 1, 2, 255, 256, 65536, math.MaxUint32 - 1, math.MaxUint32} {
		lim := someLimits()
		lim.Counter = n
		for _, length := range []int{0, 31, 32, 33} {
			areRecords(t, "a counter", lim, steps(0, length))
		}
	}
	for _, length := range []int{0, 31, 32, 33} {
		areRecords(t, "none", api.Limits{}, steps(0, length))
		areRecords(t, "the least", wideLimits(1, 1), steps(0, length))
		areRecords(t, "the most", api.Limits{Peers: 16, Prekeys: 64, Skip: 64, Skips: 256, Outbox: 64, Counter: math.MaxUint32}, steps(0, length))
	}
}

// P19.2: draws of all lengths up to far ones, and draws that are clamped at both ends.
func TestRecordsOfDraws(t *testing.T) {
	areRecords(t, "nil", someLimits(), nil)
	for length := range 70 {
		areRecords(t, "a length", someLimits(), steps(7, length))
	}
	for _, length := range []int{64, 256, 288, 65536, 65568} {
		areRecords(t, "a far length", someLimits(), zeros(length))
	}
	for _, end := range []byte{0, 1, 7, 8, 0x3f, 0x40, 0x7f, 0x80, 0xc0, 0xff} {
		areRecords(t, "its ends", someLimits(), joined([]byte{end}, steps(3, 30), []byte{end}))
	}
	areRecords(t, "all zeros", someLimits(), zeros(32))
	r := rand.New(rand.NewSource(19))
	for range 50 {
		b := make([]byte, 32)
		r.Read(b)
		areRecords(t, "drawn", wideLimits(1+r.Intn(64), r.Uint32()|1), b)
	}
}

// P19.2: what the bytes of the three records are, one by one.
func TestRecordsBytes(t *testing.T) {
	lim := api.Limits{Peers: 16, Prekeys: 64, Skip: 63, Skips: 256, Outbox: 62, Counter: 0xa1b2c3d4}
	list, e := keyring.Records(lim, steps(0xe1, 32))
	isCode(t, "Records", e, api.OK)
	priv := steps(0xe1, 32)
	priv[0] = 0xe0
	priv[31] = 0x40
	pub := wordsPair(steps(0xe1, 32)).Pub
	want := recs(
		rec(1, []byte{0}, []byte{0, 16, 0, 64, 0, 63, 1, 0, 0, 62, 0xa1, 0xb2, 0xc3, 0xd4}),
		rec(2, []byte{0}, joined(priv, pub[:])),
		rec(7, []byte{0}, []byte{0, 0, 0, 0}),
	)
	if !sameList(list, want) {
		t.Errorf("P19.2: %s\nwant %s", told(list), told(want))
	}
}
