package state_test

import (
	"fmt"
	"math"
	"math/rand"
	"testing"

	"lethe/api"
)

func someLimits() api.Limits {
	return api.Limits{Peers: 3, Prekeys: 5, Skip: 7, Skips: 200, Outbox: 9, Counter: 0xa1b2c3d4}
}

// withNumber: the limits with another number in one of the five places.
func withNumber(l api.Limits, place, n int) api.Limits {
	*[]*int{&l.Peers, &l.Prekeys, &l.Skip, &l.Skips, &l.Outbox}[place] = n
	return l
}

// P18.5, P18.6: each number at its bounds, beside them, and far off, where its low bytes would pass.
func TestLimitsBounds(t *testing.T) {
	l := someLimits()
	limitsFollowWords(t, "some limits", l)
	for place := range 5 {
		for _, n := range []int{math.MinInt, math.MinInt + 1, -1 << 32, -1<<32 + 1, -65536, -65535, -256, -255, -2, -1, 0, 1, 2, 15, 16, 17, 63, 64, 65, 255, 256, 257, 65535, 65536, 65537, 1<<31 + 1, 1 << 32, 1<<32 + 1, math.MaxInt} {
			limitsFollowWords(t, fmt.Sprintf("place %d", place), withNumber(l, place, n))
		}
	}
	for _, n := range []uint32{0, 1, 2, 255, 256, 65535, 65536, 1 << 31, math.MaxUint32} {
		l.Counter = n
		limitsFollowWords(t, "a counter", l)
	}
	limitsFollowWords(t, "none", api.Limits{})
	limitsFollowWords(t, "the least", api.Limits{Peers: 1, Prekeys: 1, Outbox: 1, Counter: 1})
	limitsFollowWords(t, "the most", api.Limits{Peers: 16, Prekeys: 64, Skip: 64, Skips: 256, Outbox: 64, Counter: math.MaxUint32})
}

// P18.6: every number that two bytes hold, in each place, and each byte of the counter.
func TestLimitsBytes(t *testing.T) {
	l := someLimits()
	for place := range 5 {
		for n := range 1 << 16 {
			limitsDecodeByWords(t, fmt.Sprintf("place %d", place), wordsLimitsBytes(withNumber(l, place, n)))
		}
	}
	for bit := range 33 {
		l.Counter = uint32(1<<bit - 1)
		limitsDecodeByWords(t, "a counter", wordsLimitsBytes(l))
	}
}

// P18.6: fewer and more bytes go ahead of what they say.
func TestLimitsCutAndTail(t *testing.T) {
	wrong := api.Limits{Peers: 17, Prekeys: 65, Skip: 65, Skips: 257, Outbox: 65}
	right := someLimits()
	right.Skips = 256
	for _, l := range []api.Limits{right, wrong, {}} {
		b := wordsLimitsBytes(l)
		for n := range b {
			limitsDecodeByWords(t, fmt.Sprintf("cut to %d", n), b[:n])
		}
		limitsDecodeByWords(t, "whole", b)
		for _, tail := range [][]byte{{0}, {1}, steps(1, 14), zeros(70000)} {
			limitsDecodeByWords(t, fmt.Sprintf("and %d bytes", len(tail)), joined(b, tail))
		}
	}
	limitsDecodeByWords(t, "none", nil)
	limitsDecodeByWords(t, "none", []byte{})
}

// P18.1, P18.6: drawn bytes.
func TestDrawnLimits(t *testing.T) {
	r := rand.New(rand.NewSource(6))
	for n := range 20000 {
		b := make([]byte, []int{13, 14, 14, 14, 14, 15, r.Intn(40)}[r.Intn(7)])
		r.Read(b)
		for i := range b {
			if i%2 == 0 && i < 10 {
				b[i] = byte(r.Intn(8) / 7)
			} else if i < 10 {
				b[i] = byte(r.Intn(20))
			}
		}
		limitsDecodeByWords(t, fmt.Sprintf("draw %d", n), b)
	}
}
