package chain_test

import (
	"slices"
	"strconv"
	"testing"

	"lethe/api"
	"lethe/chain"
)

// P13.5: steps add up, wherever they are parted, up to the most that there may be.
func TestStepsAddUp(t *testing.T) {
	k := api.Key{3: 9, 30: 2}
	for _, total := range []int{0, 1, 2, 3, 17, 255, 256} {
		whole, all, e := chain.Ahead(k, total)
		if e != api.OK {
			t.Fatalf("Ahead by %d: error %d", total, e)
		}
		for m := 0; m <= total; m += 1 + total/20 {
			half, ahead, e1 := chain.Ahead(k, m)
			next, behind, e2 := chain.Ahead(half, total-m)
			if e1 != api.OK || e2 != api.OK {
				t.Fatalf("%d and %d: errors %d, %d", m, total-m, e1, e2)
			}
			wantKeys(t, strconv.Itoa(m)+" and "+strconv.Itoa(total-m), whole, all, api.OK, next, slices.Concat(ahead, behind))
		}
	}
}

// What follows for forgetting: of the most steps no two keys, of messages or of the chain, are one and the same.
func TestKeysAreUnlike(t *testing.T) {
	seen := map[api.Key]int{}
	k := api.Key{1}
	seen[k] = -1
	for i := range 256 {
		next, message := chain.Step(k)
		for _, made := range []api.Key{next, message} {
			if at, there := seen[made]; there {
				t.Fatalf("step %d makes a key of step %d again", i, at)
			}
			seen[made] = i
		}
		k = next
	}
}

// P13.1: nothing is kept: calls give the same answers again, whatever was called between, refused calls too.
func TestNothingIsKept(t *testing.T) {
	k, other := api.Key{1}, api.Key{2}
	next, messages, _ := chain.Ahead(k, 9)
	rootNext, rootFirst := chain.Root(k, other)
	stepNext, stepMessage := chain.Step(k)
	chain.Ahead(other, 256)
	chain.Ahead(k, -1)
	chain.Root(other, k)
	chain.Step(other)
	againNext, againMessages, e := chain.Ahead(k, 9)
	wantKeys(t, "Ahead again", againNext, againMessages, e, next, messages)
	if n, f := chain.Root(k, other); n != rootNext || f != rootFirst {
		t.Errorf("Root again: %x %x, want %x %x", n, f, rootNext, rootFirst)
	}
	if n, m := chain.Step(k); n != stepNext || m != stepMessage {
		t.Errorf("Step again: %x %x, want %x %x", n, m, stepNext, stepMessage)
	}
}

// P13.1: a list that is answered is new memory, its spare room too: what is written there is seen by no other answer.
func TestNewMemory(t *testing.T) {
	k := api.Key{7}
	for _, n := range []int{0, 1, 2, 100, 256} {
		wantNext, want := wordsAhead(k, n)
		_, spoilt, _ := chain.Ahead(k, n)
		_, kept, _ := chain.Ahead(k, n)
		for i := range whole(spoilt) {
			whole(spoilt)[i] = api.Key{0xee}
		}
		next, messages, e := chain.Ahead(k, n)
		wantKeys(t, "behind the writing, "+strconv.Itoa(n), next, messages, e, wantNext, want)
		wantKeys(t, "ahead of the writing, "+strconv.Itoa(n), wantNext, kept, api.OK, wantNext, want)
	}
}

// P13.4: no key but those that were asked for lies in the list's spare room: a further one would be a secret that nobody asked for.
func TestSpareRoomHoldsNoKeys(t *testing.T) {
	for _, n := range []int{0, 1, 5, 255, 256} {
		_, messages, _ := chain.Ahead(api.Key{9}, n)
		for i, k := range whole(messages)[n:] {
			if k != (api.Key{}) {
				t.Errorf("Ahead by %d: place %d behind the list holds %x", n, i, k)
			}
		}
	}
}
