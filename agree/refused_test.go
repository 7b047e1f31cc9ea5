package agree_test

import (
	"fmt"
	"testing"

	"lethe/api"
)

// choose: a right key, or a low one where the bit is set.
func choose(set, bit int, right, low api.Key) api.Key {
	if set>>bit&1 == 1 {
		return low
	}
	return right
}

// P17.3, P17.4: each low key in each place and in both: ErrPoint, but ErrBundle, if the number is 0.
func TestLowKeys(t *testing.T) {
	c := someCast()
	for i, low := range lowKeys() {
		for set := range 4 {
			for _, number := range []uint32{0, 1, 2, 1 << 31, lastNumber} {
				offer := api.Offer{Identity: choose(set, 0, c.b.Pub, low), Prekey: number, Key: choose(set, 1, c.p.Pub, low)}
				hello := api.Hello{Identity: choose(set, 0, c.a.Pub, low), Once: choose(set, 1, c.e.Pub, low), Prekey: number}
				what := fmt.Sprintf("low key %d in the places %b, number %d", i, set, number)
				switch {
				case number == 0:
					refusedStart(t, what, api.ErrBundle, c.a, c.e, offer)
					refusedMeet(t, what, api.ErrBundle, c.b, c.p, hello)
				case set != 0:
					refusedStart(t, what, api.ErrPoint, c.a, c.e, offer)
					refusedMeet(t, what, api.ErrPoint, c.b, c.p, hello)
				default:
					takenBoth(t, what, c.a, c.e, offer, c.b, c.p, hello)
				}
			}
		}
	}
}

func takenBoth(t *testing.T, what string, own, once api.Pair, offer api.Offer, other, prekey api.Pair, hello api.Hello) {
	t.Helper()
	if got := toldStart(t, what, own, once, offer); got.e != api.OK {
		t.Errorf("P17.3: %s: error %d", what, got.e)
	}
	if got := toldMeet(t, what, other, prekey, hello); got.e != api.OK {
		t.Errorf("P17.4: %s: error %d", what, got.e)
	}
}

// P17.3: keys and numbers next to those that are refused: no low key, no refusal; public keys stand as they came in what is answered.
func TestNextToLowKeys(t *testing.T) {
	c := someCast()
	for _, k := range []api.Key{{2}, {3}, {9}, {18}, {0: 2, 31: 0x80}, {31: 0x40}, nearModulus(-2), nearModulus(2), nearModulus(18), highBit(nearModulus(18)), filled(0xff), filled(1)} {
		for set := range 4 {
			offer := api.Offer{Identity: choose(set, 0, c.b.Pub, k), Prekey: 1, Key: choose(set, 1, c.p.Pub, k)}
			hello := api.Hello{Identity: choose(set, 0, c.a.Pub, k), Once: choose(set, 1, c.e.Pub, k), Prekey: 1}
			takenBoth(t, fmt.Sprintf("key %x in the places %b", k, set), c.a, c.e, offer, c.b, c.p, hello)
		}
	}
}

// P17.1: the pairs that are handed in are never a reason to refuse: all zeros, all ones, low public keys, each in both places.
func TestAnyPairs(t *testing.T) {
	c := someCast()
	pairs := []api.Pair{{}, {Priv: filled(0xff), Pub: filled(0xff)}, {Priv: c.a.Priv}, {Pub: c.a.Pub}, {Priv: api.Key{1}, Pub: api.Key{1}}}
	for i, x := range pairs {
		for j, y := range pairs {
			takenBoth(t, fmt.Sprintf("pairs %d and %d", i, j), x, y, c.offer(7), x, y, c.hello(7))
			refusedStart(t, "no number", api.ErrBundle, x, y, c.offer(0))
			refusedMeet(t, "no number", api.ErrBundle, x, y, c.hello(0))
		}
	}
}

// P17.1: nothing at all.
func TestNothingAtAll(t *testing.T) {
	refusedStart(t, "nothing", api.ErrBundle, api.Pair{}, api.Pair{}, api.Offer{})
	refusedStart(t, "a number alone", api.ErrPoint, api.Pair{}, api.Pair{}, api.Offer{Prekey: 1})
	refusedMeet(t, "nothing", api.ErrBundle, api.Pair{}, api.Pair{}, api.Hello{})
	refusedMeet(t, "a number alone", api.ErrPoint, api.Pair{}, api.Pair{}, api.Hello{Prekey: 1})
}
