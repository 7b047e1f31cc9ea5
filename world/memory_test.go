package world_test

import (
	"bytes"
	"fmt"
	"slices"
	"testing"

	"lethe/api"
	"lethe/world"
)

// areApart: lists of one answer, or of two, share no memory: each is written over, spare room too, and the others are as they were.
func areApart(t *testing.T, what string, lists [][]byte) {
	t.Helper()
	var before [][]byte
	for _, b := range lists {
		before = append(before, bytes.Clone(b))
	}
	for i, b := range lists {
		spoil(b)
		for j := range lists {
			if j > i && !bytes.Equal(lists[j], before[j]) {
				t.Fatalf("rule 2: %s: lists %d and %d share memory", what, i, j)
			}
		}
	}
}

// P24.1, rule 2: what is handed out is new memory, spare room too: nobody sees what is written into it, no other answer either.
func TestHandedOut(t *testing.T) {
	b := raised(t, 20)
	b.goes("copy 1", "copy 1", "publish 1 2 *", "send 1 2 'more -")
	ahead := b.seen()
	var lists [][]byte
	for range 2 {
		for _, f := range b.w.Flights() {
			lists = append(lists, f.Bytes)
		}
		for k := 1; k <= 3; k++ {
			image, _ := b.w.Image(k)
			lists = append(lists, image)
			list, _ := b.w.Records(k)
			for _, r := range list {
				lists = append(lists, r.Key, r.Value)
			}
		}
	}
	areApart(t, "Flights, Image, Records", lists)
	for range 2 {
		views, flights := b.w.Views(), b.w.Flights()
		clear(whole(views))
		clear(whole(flights))
		records, _ := b.w.Records(1)
		clear(whole(records))
		_ = append(append(views[:0], api.View{Node: 7}), views...)
	}
	if b.seen() != ahead {
		t.Errorf("rule 2: what a caller has written into an answer is seen")
	}
	b.isSame("all of it")
	one, two := b.w.Views(), b.w.Views()
	clear(whole(one))
	if two[0].Node != 1 {
		t.Errorf("rule 2: two answers of Views share memory")
	}
	b.is("deliver 1 * 'd", 0, 1, 2, "yes")
}

// P24.1, rule 2: a step's lists may lie in one piece of memory; nothing is written into it, or behind any of them, and what is written there later is not seen.
func TestHandedIn(t *testing.T) {
	for _, at := range []int{0, 3, 5} {
		b := raised(t, 20)
		memory := []byte("the text and the data")
		was := bytes.Clone(memory)
		number := len(b.r.air)
		s := api.Step{Kind: 4, Node: 1, Peer: 2, Text: memory[at : at+8], Data: memory[at+4 : at+8]}
		a := b.w.Play(s)
		if a.Code != 0 || !bytes.Equal(memory, was) {
			t.Fatalf("rule 2: Send: %s, and the memory is %q", told(a), memory)
		}
		d := api.Step{Kind: 5, A: number, Draw: b.draw(), Data: s.Data}
		got := b.w.Play(d)
		if got.Bytes != string(was[at:at+8]) || !bytes.Equal(memory, was) {
			t.Errorf("rule 2: Deliver: %s, and the memory is %q", told(got), memory)
		}
		clear(memory)
		if list, _ := b.w.Records(1); !bytes.Contains(list[len(list)-2].Value, []byte(a.Bytes)) {
			t.Errorf("rule 2: the packet in the outbox is another one")
		}
	}
}

// P24.1, rule 2: a Loss that Arm or Boot was handed is not kept: its numbers are written over ahead of the crash.
func TestHandedInLoss(t *testing.T) {
	for _, first := range []uint64{0, 1, 1<<64 - 1} {
		b, other := raised(t, 20), raised(t, 20)
		keep := []uint64{first, 77}
		for _, x := range []*bench{b, other} {
			x.goes("close 1")
			list := slices.Clone(keep)
			if a := x.w.Play(api.Step{Kind: 12, Node: 1, A: 6, Loss: api.Loss{Keep: list[:1], Torn: 2, Offset: 100}}); a.Code != 0 || !slices.Equal(list, keep) {
				t.Errorf("rule 2: Boot: %s, and the numbers are %v", told(a), list)
			}
			if x == other {
				list[0] ^= 1<<64 - 1
			}
			s := x.step("send 1 2 'hi -")
			if a := x.w.Play(s); a.Code != 80 {
				t.Errorf("Send: %s", told(a))
			}
		}
		if b.seen() != other.seen() {
			t.Errorf("rule 2: a Loss is kept as it was handed in")
		}
	}
}

// P24.1: what Run hands out is new memory each time.
func TestHandedOutByRun(t *testing.T) {
	steps := someScript(t)
	one, views, _ := world.Run(3, narrow(), steps)
	kept := slices.Clone(one)
	two, more, _ := world.Run(3, narrow(), steps)
	clear(whole(one))
	clear(whole(views))
	if !slices.Equal(two, kept) || len(more) != 3 || more[0].Node != 1 {
		t.Errorf("rule 2: two Runs share memory")
	}
}

// P24.1, rule 5: worlds know nothing of one another: each goes on as it would alone, whatever is played in the others meanwhile.
func TestManyWorlds(t *testing.T) {
	steps := someScript(t)
	var all []*bench
	for range 3 {
		all = append(all, newBench(t, 3, narrow()))
	}
	for n := range len(steps) + 8 {
		for i, b := range all {
			if at := n - 4*i; at >= 0 && at < len(steps) {
				b.plays(fmt.Sprintf("world %d, step %d", i, at), steps[at])
			}
		}
		for i, b := range all {
			b.isSame(fmt.Sprintf("round %d, world %d", n, i))
		}
	}
	if all[0].seen() != all[1].seen() || all[1].seen() != all[2].seen() {
		t.Errorf("rule 5: one script has come to other ends")
	}
}
