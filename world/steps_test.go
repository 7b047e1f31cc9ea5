package world_test

import (
	"fmt"
	"math"
	"strings"
	"testing"

	"lethe/api"
)

// filled: the step with something in each field that its kind does not name.
func filled(s api.Step, fields string, number int) api.Step {
	text := make([]byte, 600)
	other := api.Step{Node: number, Peer: number, A: number, B: number, Draw: api.Key{31: 255}, Other: api.Key{1}, Text: text, Data: text, Loss: api.Loss{Keep: []uint64{1<<64 - 1}, Torn: number, Offset: number}}
	other.Kind = s.Kind
	for _, c := range fields {
		switch c {
		case 'n':
			other.Node = s.Node
		case 'p':
			other.Peer = s.Peer
		case 'a':
			other.A = s.A
		case 'd':
			other.Draw = s.Draw
		case 'o':
			other.Other = s.Other
		case 't':
			other.Text = s.Text
		case 'x':
			other.Data = s.Data
		case 'l':
			other.Loss = s.Loss
		}
	}
	return other
}

// P24.1: fields that a kind does not name are not looked at.
func TestOtherFields(t *testing.T) {
	for _, line := range []string{
		"create 4 5 *", "create 1 5 *", "publish 1 2 *", "initiate 1 3 * * 'hi -", "initiate 1 2 * * 'hi -", "send 1 2 'hi 'data", "deliver 1 * 'd", "deliver 1 * 'x", "deliver 0 * 'd", "drop 1", "drop 0", "copy 2", "copy 9",
		"ack 1 2 0", "ack 1 2 7", "replay 1 2", "replay 1 3", "forget 1 2", "forget 1 3", "arm 1 2 - 0 9", "arm 1 0 - 0 0", "arm 1 -1 - 0 0", "boot 1 0 - 0 0", "close 1", "junk 1 2 'junk * -", "status 1 2", "status 1 3", "status 2 1",
	} {
		t.Run(line, func(t *testing.T) {
			t.Parallel()
			for _, number := range []int{0, 1, 2, 5, -1, math.MaxInt, math.MinInt} {
				b, other := raised(t, 5), raised(t, 5)
				s := b.step(line)
				a := b.quick(line, s)
				got := other.quick(line, filled(s, forms[strings.Fields(line)[0]].fields, number))
				if got != a || b.seen() != other.seen() {
					t.Errorf("P24.1: %s with %d and more in its other fields: %s, want %s", line, number, told(got), told(a))
				}
			}
		})
	}
}

// P24.1: bundles are handed over in their order, those of each peer for themselves; Initiate takes the oldest, and it is held no more; a refused one keeps it.
func TestBundles(t *testing.T) {
	b := newBench(t, 4, api.Limits{Peers: 3, Prekeys: 9, Skip: 2, Skips: 4, Outbox: 2, Counter: 99})
	b.goes("create 1 20 *", "create 2 20 *", "create 3 20 *")
	b.is("initiate 1 2 * * - -", 245, 0, 0, "")
	b.is("publish 4 1 *", 242, 0, 0, "")
	held := map[int][]string{}
	for i, from := range []int{2, 3, 2, 2, 3} {
		number := len(held[from]) + 1
		held[from] = append(held[from], b.is(fmt.Sprintf("publish %d 1 *", from), 0, number, i+1, "+"))
	}
	b.is("publish 2 3 *", 0, 4, 1, "+") // what 3 holds is not what 1 holds
	b.is("publish 3 4 *", 0, 3, 1, "+") // to a node that is not created
	b.is("publish 1 4 *", 0, 1, 2, "+") // of all nodes
	for k, from := range []int{3, 2} {
		b.is(fmt.Sprintf("initiate 1 %d * * %s -", from, strings.Repeat("00", 513)), 5, 0, 0, "")
		packet := b.is(fmt.Sprintf("initiate 1 %d * * - -", from), 0, 2*k, 0, "+")
		if packet[66:70] != held[from][0][34:38] || packet[66:70] != "\x00\x00\x00\x01" {
			t.Errorf("P24.1: Initiate with %d names prekey %x", from, packet[66:70])
		}
		b.is(fmt.Sprintf("initiate 1 %d * * - -", from), 210, 0, 0, "")
		b.goes(fmt.Sprintf("forget 1 %d", from))
		packet = b.is(fmt.Sprintf("initiate 1 %d * * - -", from), 0, 2*k+1, 0, "+")
		if packet[66:70] != "\x00\x00\x00\x02" {
			t.Errorf("P24.1: the next Initiate with %d names prekey %x", from, packet[66:70])
		}
		b.goes(fmt.Sprintf("forget 1 %d", from))
	}
	b.is("initiate 1 3 * * - -", 245, 0, 0, "")
	b.is("initiate 1 2 * * - -", 0, 4, 0, "+")
	b.goes("forget 1 2")
	b.is("initiate 1 2 * * - -", 245, 0, 0, "")
	b.goes("create 4 20 *") // it holds what it was handed ahead of that
	b.is("initiate 4 1 * * - -", 0, 5, 0, "+")
	b.is("publish 2 4 *", 0, 5, 2, "+") // one of 3, and this one
	b.is("initiate 3 2 * * - -", 0, 6, 0, "+")
}

// P24.1: a bundle is held still where the disk gave up in Initiate, and by a node that was closed and opened again.
func TestBundlesOutlast(t *testing.T) {
	for _, c := range []struct {
		step int
		code api.Errno // of the next Initiate
	}{{1, 0}, {5, 0}, {12, 210}} {
		b := newBench(t, 2, narrow())
		b.goes("create 1 20 *", "create 2 20 *", "publish 2 1 *")
		b.goes("close 1", "boot 1 0 - 0 0", fmt.Sprintf("arm 1 %d - -1 0", c.step))
		b.is("initiate 1 2 * * 'hi -", 80, 0, 0, "")
		if n := len(b.w.Flights()); n != 0 {
			t.Errorf("P24.1: %d packets are on their way that nobody was told of", n)
		}
		b.goes("boot 1 0 - 0 0")
		if a := b.does("initiate 1 2 * * 'hi -"); a.Code != c.code {
			t.Errorf("P24.1: behind a disk that gave up at %d: %s, want %d", c.step, told(a), c.code)
		}
		b.does("forget 1 2")
		want := map[api.Errno]api.Errno{0: 245, 210: 0}[c.code]
		if a := b.does("initiate 1 2 * * 'hi -"); a.Code != want {
			t.Errorf("P24.1: behind Forget: %s, want %d", told(a), want)
		}
	}
}

// P24.1: what Publish has not answered is not handed over, though its prekey may be there.
func TestPublishGivesUp(t *testing.T) {
	for step, prekeys := range map[int]int{1: 0, 3: 0, 12: 1} {
		b := newBench(t, 2, narrow())
		b.goes("create 1 20 *", "create 2 20 *", fmt.Sprintf("arm 2 %d - -1 0", step))
		b.is("publish 2 1 *", 80, 0, 0, "")
		b.goes("boot 2 0 - 0 0")
		if v := b.w.Views()[1]; v.Prekeys != prekeys {
			t.Errorf("P24.1: %d prekeys behind a disk that gave up at %d, want %d", v.Prekeys, step, prekeys)
		}
		b.is("initiate 1 2 * * - -", 245, 0, 0, "")
		b.is("publish 2 1 *", 0, 1+prekeys, 1, "+")
	}
}

// P24.1: packets that net.Send refuses are lost, though their clients have sent them; Replay sends until it is refused.
func TestCrowded(t *testing.T) {
	b := raised(t, 20)
	b.crowds(0)
	b.is("copy 1", 231, 0, 0, "")
	before := len(b.r.air)
	b.is("send 1 2 'lost -", 231, -1, 0, "")
	b.is("initiate 1 3 * * 'lost2 -", 231, -1, 0, "")
	b.is("initiate 1 3 * * - -", 245, 0, 0, "") // the bundle was taken
	b.is("replay 1 2", 231, 0, 0, "")
	b.is("replay 1 3", 231, 0, 0, "")
	if v := b.w.Views()[0]; v.Peers != 2 || v.Unanswered != 3 || len(b.w.Flights()) != 4096 {
		t.Errorf("P24.1: %+v, %d packets", v, len(b.w.Flights()))
	}
	b.goes("drop 7")
	b.is("replay 1 2", 231, 1, 0, "") // one of the two
	b.goes("drop 1", "drop 2")
	b.is("replay 1 2", 0, 2, 0, "")
	b.goes("drop 8")
	b.is("replay 1 3", 0, 1, 0, "")
	b.is("replay 1 3", 231, 0, 0, "")
	var texts []string
	for k := before; k < before+4; k++ {
		texts = append(texts, b.does(fmt.Sprintf("deliver %d * -", k)).Bytes)
	}
	if fmt.Sprint(texts) != "[  lost lost2]" { // packet 0, which was taken before, twice; then what was lost
		t.Errorf("P24.1: the replayed packets bring %q", texts)
	}
	b.is("send 1 3 'more -", 0, before+4, 1, "+")
}
