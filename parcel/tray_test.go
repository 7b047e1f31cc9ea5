package parcel_test

import (
	"fmt"
	"math"
	"slices"
	"strings"
	"testing"
)

// P26.1: every room: so many parcels at once and no more, coming ones and whole ones alike; parts of those that are there are taken beside; each that leaves makes room for one.
func TestFull(t *testing.T) {
	text := sample(room+1, 20)
	for most := 1; most <= maxParcel; most++ {
		b := newBench(t, most)
		for k := range most {
			id := uint32(k / 2)
			peer := []string{"bob", "eve"}[k%2]
			b.isCode("room", b.add("filled up", peer, split(t, id, text)[k%3%2]), 0)
			if k%3 == 2 {
				b.isCode("whole", b.add("filled up", peer, split(t, id, text)[1]), 0)
			}
		}
		for _, id := range []uint32{100, math.MaxUint32} {
			b.isCode("full", b.add("full", "bob", split(t, id, text)[1]), full)
			b.isCode("full", b.add("full", "bob", split(t, id, "whole at once")[0]), full)
		}
		b.isCode("full", b.add("full", "carol", split(t, 0, text)[0]), full)
		b.isCode("there already", b.add("full", "bob", split(t, 0, text)[1]), 0)
		b.isCode("whole", b.take("full", "bob", 0), 0)
		b.isCode("room again", b.add("room again", "carol", split(t, 0, text)[0]), 0)
		b.isCode("full", b.add("full again", "bob", split(t, 0, text)[0]), full)
		b.isCount("one leaves", b.drop("full", "carol"), 1)
		b.isCode("room again", b.add("room again", "carol", split(t, 1, "")[0]), 0)
		b.isCode("full", b.add("full again", "dave", split(t, 0, "")[0]), full)
		b.isCount("full", b.x.Len(), most)
	}
}

// P26.1: a parcel is named by its peer and its id, both whole: parcels that are alike in one of them, or nearly, go their own ways.
func TestParcelsApart(t *testing.T) {
	peers := []string{"bob", "eve", "bo", "bob\x00", "Bob", "b", "0123456789abcdef", "0123456789abcdeg"}
	ids := []uint32{0, 1, 256, 1 << 16, 1 << 24, 1 << 31, math.MaxUint32, 7}
	b := newBench(t, maxParcel)
	var all []string
	for i, peer := range peers {
		for k, id := range ids {
			parts := split(t, id, sample(room+1+i, int64(k)))
			b.addAll("first halves", peer, parts[(i+k)%2])
			all = append(all, parts[1-(i+k)%2])
		}
	}
	for i, peer := range peers {
		for k, id := range ids {
			b.isCode("half", b.take("half", peer, id), notWhole)
			b.isCode("half", b.missing("half", peer, id), 0)
			b.isCode("the other half", b.add("second halves", peer, all[i*len(ids)+k]), 0)
		}
	}
	for i, peer := range peers {
		for k := range ids {
			id := ids[(k+i)%len(ids)]
			b.isCode("whole", b.take("whole", peer, id), 0)
			b.isCode("gone", b.take("gone", peer, id), unknown)
		}
	}
	b.isCount("all are gone", b.x.Len(), 0)
}

// P26.1: one id of two peers: what one sends is nothing to the other.
func TestOneIDTwoPeers(t *testing.T) {
	bobs, eves := split(t, 7, sample(room+1, 21)), split(t, 7, sample(2*room+1, 22))
	b := newBench(t, 2)
	b.addAll("in turns", "bob", bobs[0])
	b.addAll("in turns", "eve", eves[2], eves[0])
	b.isCode("eve's part, come from bob", b.add("crossed", "bob", eves[1]), noPart)
	b.isCode("bob's part, come from eve", b.add("crossed", "eve", bobs[1]), noPart)
	b.addAll("in turns", "bob", bobs[1])
	b.isCode("not whole", b.take("not whole", "eve", 7), notWhole)
	b.isCode("whole", b.take("whole", "bob", 7), 0)
	b.isCode("eve's part, come from bob", b.add("a new one", "bob", eves[1]), 0)
	b.addAll("in turns", "eve", eves[1])
	b.isCode("whole", b.take("whole", "eve", 7), 0)
	b.isCode("not whole", b.take("not whole", "bob", 7), notWhole)
}

// P26.1: Take and Missing of no parcel, of one with parts missing, of a whole one, and again behind Take.
func TestTakeAndMissing(t *testing.T) {
	for _, size := range []int{0, 1, room, room + 1, 5 * room, longest} {
		b := newBench(t, 3)
		parts := split(t, 7, sample(size, 23))
		b.isCode("none", b.take("none", "bob", 7), unknown)
		b.isCode("none", b.missing("none", "bob", 7), unknown)
		for i, part := range parts {
			b.addAll("coming", "bob", part)
			if i < len(parts)-1 {
				b.isCode("not whole", b.take("not whole", "bob", 7), notWhole)
				b.isCode("not whole", b.missing("not whole", "bob", 7), 0)
			}
		}
		for _, id := range []uint32{0, 6, 8, 7 + 256, 7 + 1<<16, 7 + 1<<31} {
			b.isCode("another id", b.take("another id", "bob", id), unknown)
			b.isCode("another id", b.missing("another id", "bob", id), unknown)
		}
		for _, peer := range []string{"bo", "bobb", "eve", "BOB"} {
			b.isCode("another peer", b.take("another peer", peer, 7), unknown)
			b.isCode("another peer", b.missing("another peer", peer, 7), unknown)
		}
		if list, e := b.x.Missing("bob", 7); len(list) != 0 || e != 0 {
			t.Errorf("P26.1: Missing of a whole one: %v, error %d", list, e)
		}
		b.isCode("whole", b.take("whole", "bob", 7), 0)
		b.isCode("taken", b.take("taken", "bob", 7), unknown)
		b.isCode("taken", b.missing("taken", "bob", 7), unknown)
	}
}

// P26.1: Missing rises, whatever has come.
func TestMissingRises(t *testing.T) {
	for _, many := range []int{2, 3, 4, 5} {
		parts := split(t, 7, sample(many*room, 24))
		for _, order := range orders(many) {
			b := newBench(t, 1)
			for i, k := range order {
				b.addAll(fmt.Sprint(order), "bob", parts[k])
				list, _ := b.x.Missing("bob", 7)
				want := slices.Sorted(slices.Values(order[i+1:]))
				if !slices.Equal(list, want) {
					t.Errorf("P26.1: %v: behind part %d: Missing %v, want %v", order, k, list, want)
				}
			}
		}
	}
}

// P26.1: another parcel may come under an id that was taken, or dropped: of another number of parts, and of another sum; and the same one again.
func TestAnotherUnderOneID(t *testing.T) {
	b := newBench(t, 1)
	for round, size := range []int{room + 1, 0, 3 * room, 1, 1, 3 * room, longest, room + 1} {
		parts := split(t, 7, sample(size, int64(round%2)))
		b.addAll("anew", "bob", parts[:len(parts)-1]...)
		if round%3 == 2 {
			b.isCount("given up", b.drop("given up", "bob"), 1)
			b.addAll("anew", "bob", parts[:len(parts)-1]...)
		}
		b.addAll("anew", "bob", parts[len(parts)-1])
		b.isCode("whole", b.take("anew", "bob", 7), 0)
	}
}

// P26.1: Drop of a peer with none, one and several parcels, coming and whole ones; the others' stay.
func TestDrop(t *testing.T) {
	for _, count := range []int{0, 1, 2, 5, 31, 62} {
		b := newBench(t, maxParcel)
		b.addAll("ahead", "bo", split(t, 7, sample(room+1, 25))[1])
		b.addAll("ahead", "bobb", split(t, 7, "whole")[0])
		for k := range count {
			parts := split(t, uint32(k), sample(room+1, int64(k)))
			b.addAll("ahead", "bob", parts[:1+k%2]...)
		}
		for _, name := range append(wrongNames(), "eve", "BOB", "bob\x00", "b", strings.Repeat("bob", 5)) {
			b.isCount("none of this name", b.drop("none", name), 0)
		}
		b.isCount("all of bob's", b.drop("bob", "bob"), count)
		b.isCount("none is left", b.drop("bob", "bob"), 0)
		b.isCount("the others'", b.x.Len(), 2)
		for k := range count {
			b.isCode("gone", b.take("gone", "bob", uint32(k)), unknown)
		}
		b.isCode("still there", b.take("still there", "bobb", 7), 0)
		b.addAll("still there", "bo", split(t, 7, sample(room+1, 25))[0])
		b.isCode("still there", b.take("still there", "bo", 7), 0)
		b.isCount("none", b.drop("none", "bo"), 0)
	}
}

// P26.1: refused calls change nothing, however many and whatever they are: what is missing, and the text at the end, are as without them.
func TestRefusedChangeNothing(t *testing.T) {
	text := sample(3*room+5, 26)
	parts := split(t, 7, text)
	b := newBench(t, 2)
	b.addAll("ahead", "eve", split(t, 7, "eve's")[0])
	for _, part := range parts {
		for range 3 {
			b.add("refused", "", part)
			b.add("refused", "bob", part[:14])
			b.add("refused", "bob", part+strings.Repeat("x", 512))
			b.add("refused", "eve", part)
			b.add("refused", "eve", split(t, 7, "eve's")[0])
			b.add("refused", "carol", written(1, 1, 0, wordsSum("y"), "x"))
			if b.w.find("bob", 7) != nil {
				b.add("refused", "carol", part)
				b.add("refused", "bob", flipped(part, 7))
				b.add("refused", "bob", written(7, 3, 0, wordsSum(text), text[:room]))
				b.add("refused", "bob", parts[0])
				b.add("refused", "bob", flipped(parts[0], 20))
			}
			b.take("refused", "bob", 7)
			b.take("refused", "bob", 8)
			b.take("refused", "", 7)
			b.missing("refused", "carol", 7)
			b.missing("refused", strings.Repeat("c", 17), 7)
			b.drop("none", "carol")
		}
		if part == parts[len(parts)-1] {
			b.isCode("another content", b.add("refused", "bob", flipped(part, 16)), badSum)
		}
		b.addAll("goes on", "bob", part)
	}
	b.isCode("eve's", b.take("eve's", "eve", 7), 0)
	b.isCode("bob's", b.take("bob's", "bob", 7), 0)
	b.isCount("none is left", b.x.Len(), 0)
}
