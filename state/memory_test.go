package state_test

import (
	"bytes"
	"testing"

	"lethe/api"
	"lethe/state"
)

// handedIn: bytes for both calls that take some: right ones of each form, and ones with each kind of fault.
func handedIn() [][]byte {
	list := [][]byte{nil, {}, {1}, {2}, steps(1, 13), steps(1, 15), zeros(14)}
	for _, s := range forms() {
		b := wordsBytes(s, wordsMark(s))
		list = append(list, b, b[:len(b)-1], joined(b, []byte{7}), wordsBytes(s, 9))
	}
	bad := talking()
	bad.Serial = 0
	return append(list, wordsBytes(bad, 0), wordsLimitsBytes(someLimits()), wordsLimitsBytes(api.Limits{Peers: 1, Prekeys: 2, Skip: 3, Skips: 4, Outbox: 5, Counter: 6}))
}

// P18.1: what is handed in is as it was, spare room too, and what was made of it doesn't hang on it any more.
func TestHandedInStays(t *testing.T) {
	for i, given := range handedIn() {
		b := roomy(given)
		before := joined(whole(b))
		s, e := state.Decode(b)
		l, f := state.DecodeLimits(b)
		if !bytes.Equal(whole(b), before) {
			t.Fatalf("P18.1: list %d, or what lies behind it, has changed", i)
		}
		clear(whole(b))
		wantState, wantE := wordsDecode(given)
		wantLimits, wantF := wordsDecodeLimits(given)
		if s != wantState || e != wantE || l != wantLimits || f != wantF {
			t.Errorf("P18.1: list %d: an answer has changed with what was handed in", i)
		}
	}
}

// encoded: all lists that the calls answer.
func encoded() [][]byte {
	var list [][]byte
	for _, s := range []api.State{{}, waiting(), listening(), writing(), greeting(), answering(), talking(), {Own: 5}} {
		b, _ := state.Encode(s)
		list = append(list, b)
	}
	for _, l := range []api.Limits{{}, {Peers: 1, Prekeys: 1, Outbox: 1, Counter: 1}, {Peers: 16, Prekeys: 64, Skip: 64, Skips: 256, Outbox: 64, Counter: 9}} {
		b, _ := state.EncodeLimits(l)
		list = append(list, b)
	}
	return list
}

// P18.1: no two answers share memory, spare room too; what is written into one is seen in none, nor in what is answered later.
func TestAnswersAreNew(t *testing.T) {
	want := encoded()
	for i, b := range want {
		want[i] = joined(b)
	}
	outs := append(encoded(), encoded()...)
	for k, out := range outs {
		for n := range whole(out) {
			whole(out)[n] ^= 0x55
		}
		_ = append(out, 1, 2, 3)
		for other := k + 1; other < len(outs); other++ {
			if !bytes.Equal(outs[other], want[other%len(want)]) {
				t.Fatalf("P18.1: answers %d and %d share memory", k, other)
			}
		}
	}
	for i, b := range encoded() {
		if !bytes.Equal(b, want[i]) {
			t.Errorf("P18.1: answer %d is another one the next time", i)
		}
	}
}

// P18.1: states that lie in one array, one behind the other.
func TestStatesOfOneArray(t *testing.T) {
	first, second := wordsBytes(greeting(), 1), wordsBytes(talking(), 0)
	array := joined(first, second)
	before := joined(array)
	isDecoded(t, "the first", array[:len(first)], 0)
	isDecoded(t, "the second", array[len(first):], 0)
	isDecoded(t, "both", array, 11)
	if !bytes.Equal(array, before) {
		t.Errorf("P18.1: the array has changed")
	}
}
