package ratchet_test

import (
	"bytes"
	"slices"
	"testing"

	"lethe/api"
	"lethe/ratchet"
)

// Rule 2: text and data that are handed to Send stay as they were, with what lies around them, and what is written there later is not seen.
func TestSendLeavesWhatItWasHanded(t *testing.T) {
	s := place(3, 4, api.Header{Turn: 2, N: 4}).s
	for _, own := range []uint32{0, 4} {
		s.Own = own
		for _, n := range []int{0, 1, 16, 64, 65} {
			text, allText := roomy(bytes.Repeat([]byte{5}, n), 0xaa)
			data, allData := roomy(bytes.Repeat([]byte{6}, n), 0xbb)
			beforeText, beforeData := slices.Clone(allText), slices.Clone(allData)
			_, _, body, e := ratchet.Send(s, last, text, data)
			if !bytes.Equal(allText, beforeText) || !bytes.Equal(allData, beforeData) {
				t.Errorf("P16.1: Send, error %d, %d bytes: what was handed in, or what lies beside it, has changed", e, n)
			}
			kept := slices.Clone(body)
			clear(allText)
			clear(allData)
			if !bytes.Equal(body, kept) {
				t.Errorf("P16.1: Send, %d bytes: the sealed text shares memory with what was handed in", n)
			}
			for i := range whole(body) {
				whole(body)[i] = 0xee
			}
			if !bytes.Equal(allText, make([]byte, len(allText))) || !bytes.Equal(allData, make([]byte, len(allData))) {
				t.Errorf("P16.1: Send, %d bytes: what is written into the sealed text is seen", n)
			}
		}
	}
}

// around: the same call, each of its lists within a longer one.
func around(g given) (roomyGiven given, list []api.Skipped, body, data []byte) {
	g.skipped, list = roomy(g.skipped, skipped(1<<30, 5, key(88)))
	g.body, body = roomy(g.body, 0xaa)
	g.data, data = roomy(g.data, 0xbb)
	return g, list, body, data
}

// calls: Receive in all its ways: opened ones of each kind, with and without new keys, and refused ones.
func calls() map[string]given {
	all := three()
	all["no list"] = place(3, 4, api.Header{Turn: 2, N: 4})
	all["the last one of a list"] = place(3, 4, api.Header{Turn: 1, N: 4}, rising(1, 0, 5)...)
	all["the only one of a list"] = place(3, 4, api.Header{Turn: 1, N: 4}, rising(1, 4, 1)...)
	all["nothing missing"] = place(3, 4, api.Header{Turn: 2, N: 4}, rising(1, 0, 5)...)
	for _, what := range []string{"old", "goes on", "new turn", "first"} {
		g := all[what]
		g.body = flipped(g.body, 3)
		all[what+", ErrTag"] = g
		g.lim.Skips = 0
		all[what+", ErrSkips"] = g
		g.lim.Skip = -1
		all[what+", ErrLimits"] = g
	}
	return all
}

// Rule 2: what is handed to Receive stays as it was, with what lies around it, whatever the answer is.
func TestReceiveLeavesWhatItWasHanded(t *testing.T) {
	for what, g := range calls() {
		want := wordsReceive(g)
		g, list, body, data := around(g)
		keptList, keptBody, keptData := slices.Clone(list), slices.Clone(body), slices.Clone(data)
		if !same(g.asked(), want) {
			t.Errorf("P16.1: %s: another answer within longer lists", what)
		}
		if !slices.Equal(list, keptList) || !bytes.Equal(body, keptBody) || !bytes.Equal(data, keptData) {
			t.Errorf("P16.1: %s: what was handed in, or what lies beside it, has changed", what)
		}
	}
}

// Rule 2: what Receive answers is new memory, spare room too: it doesn't see what is written into what was handed in, nor the other way round, nor do two answers see one another.
func TestReceiveAnswersNewMemory(t *testing.T) {
	for what, g := range calls() {
		want := wordsReceive(g)
		g, list, body, data := around(g)
		one, two := g.asked(), g.asked()
		for i := range list {
			list[i] = skipped(1, 1, key(99))
		}
		for i := range body {
			body[i] = 0xcc
		}
		for i := range data {
			data[i] = 0xdd
		}
		if !same(one, want) || !same(two, want) {
			t.Errorf("P16.1: %s: the answer sees what is written into what was handed in", what)
		}
		for i := range whole(one.skipped) {
			whole(one.skipped)[i] = skipped(2, 2, key(98))
		}
		for i := range whole(one.text) {
			whole(one.text)[i] = 0xee
		}
		if !same(two, want) {
			t.Errorf("P16.1: %s: an answer sees what is written into another", what)
		}
		if slices.ContainsFunc(list, func(x api.Skipped) bool { return x != skipped(1, 1, key(99)) }) || slices.ContainsFunc(body, func(x byte) bool { return x != 0xcc }) || slices.ContainsFunc(data, func(x byte) bool { return x != 0xdd }) {
			t.Errorf("P16.1: %s: what is written into an answer is seen in what was handed in", what)
		}
	}
}

// P16.3: a key that was taken stands nowhere in the list that is answered, its spare room included.
func TestTakenKeyStandsNowhere(t *testing.T) {
	for at := range uint32(40) {
		g := place(3, 4, api.Header{Turn: 1, N: at}, rising(1, 0, 40)...)
		a := isOpened(t, "old", g)
		for i, x := range whole(a.skipped) {
			if i >= len(a.skipped) && x != (api.Skipped{}) || x == g.skipped[at] {
				t.Fatalf("P16.3: key %d: place %d of a list of %d holds %x", at, i, len(a.skipped), x)
			}
		}
	}
}
