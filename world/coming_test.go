package world_test

import (
	"testing"

	"lethe/api"
)

// junk: bytes that come to a node as another one's packet.
func (b *bench) junk(what string, node, peer int, text, data string) api.Answer {
	b.t.Helper()
	return b.plays("junk: "+what, api.Step{Kind: 14, Node: node, Peer: peer, Text: []byte(text), Data: []byte(data), Draw: b.draw()})
}

// isAnswer: of a step that is no line.
func (b *bench) isAnswer(what string, got, want api.Answer) {
	b.t.Helper()
	if got != want {
		b.t.Errorf("P24.1: %s: %s, want %s", what, told(got), told(want))
	}
}

// P24.1: where there is no session: a First packet that Unpack takes is accepted, all else is received, and so refused with ErrNoPeer. (Accept would have told ErrPacket, ErrShort, ErrTail.)
func TestAcceptOrReceive(t *testing.T) {
	b := newBench(t, 3, narrow())
	b.goes("create 1 20 *", "create 2 20 *", "create 3 20 *", "publish 2 1 *")
	first := b.is("initiate 1 2 * * 'first -", 0, 0, 0, "+")
	second := b.is("send 1 2 'second 'd", 0, 1, 1, "+")
	plain := "\x01\x02" + first[70:]
	for what, text := range map[string]string{
		"no bytes": "", "one byte": "\x01", "a plain packet": plain, "a byte more": first + "\x00", "a byte less": first[:len(first)-1], "another version": "\x02" + first[1:], "another kind": "\x01\x03" + first[2:],
		"no identity": first[:2] + string(make([]byte, 32)) + first[34:], "no prekey": first[:66] + "\x00\x00\x00\x00" + first[70:],
	} {
		b.isAnswer(what, b.junk(what, 2, 1, text, ""), code(211))
	}
	b.isAnswer("another prekey", b.junk("another prekey", 2, 1, first[:66]+"\x00\x00\x00\x02"+first[70:], ""), code(190))
	b.isAnswer("to another node", b.junk("to another node", 3, 1, first, ""), code(190))
	b.isAnswer("other data", b.junk("other data", 2, 1, first, "d"), code(50))
	b.is("deliver 1 * 'd", 0, 2, 1, "second") // Accept
	b.is("deliver 0 * -", 0, 2, 1, "first")   // a First packet too, but there is a session: Receive
	b.isAnswer("again", b.junk("again", 2, 1, first, ""), code(161))
	b.isAnswer("again", b.junk("again", 2, 1, second, "d"), code(161))
	for what, want := range map[string]api.Errno{"": 10, "\x01": 10, first + "\x00": 11, "\x02" + first[1:]: 140, first[:2] + string(make([]byte, 32)) + first[34:]: 141} {
		b.isAnswer("to a session", b.junk("to a session", 2, 1, what, ""), code(want))
	}
	b.isAnswer("as another's", b.junk("as another's", 2, 3, first, ""), code(190))
	b.goes("forget 2 1")
	b.isAnswer("behind Forget", b.junk("behind Forget", 2, 1, first, ""), code(190))
}

// P24.1: what comes as junk is taken as what comes over the network is; A and B are not told.
func TestJunk(t *testing.T) {
	b := newBench(t, 2, narrow())
	b.goes("create 1 20 *", "create 2 20 *", "publish 2 1 *")
	first := b.is("initiate 1 2 * * 'hi 'd", 0, 0, 0, "+")
	b.isAnswer("accepted", b.junk("accepted", 2, 1, first, "d"), api.Answer{Bytes: "hi"})
	b.is("deliver 0 * 'd", 161, 0, 0, "")
	yes := b.is("send 2 1 'yes -", 0, 1, 0, "+")
	b.isAnswer("received", b.junk("received", 1, 2, yes, ""), api.Answer{Bytes: "yes"})
	b.is("deliver 1 * -", 161, 0, 0, "")
	none := b.is("send 1 2 - -", 0, 2, 1, "+")
	b.isAnswer("an empty text", b.junk("an empty text", 2, 1, none, ""), api.Answer{})
	b.is("status 2 1", 0, 0, 1, "?")
}

// P24.1: a packet that comes to a node that is not created, is closed, is down, is gone from the network, and takes nothing with it.
func TestComingToNobody(t *testing.T) {
	b := raised(t, 20)
	b.fourthName()
	b.goes("send 1 4 'nobody -")
	b.is("deliver 4 * -", 242, 0, 0, "")
	b.is("deliver 4 * -", 230, 0, 0, "")
	b.goes("copy 1", "copy 1", "copy 1", "close 1")
	b.is("deliver 5 * 'd", 220, 0, 0, "")
	b.is("deliver 5 * 'd", 230, 0, 0, "")
	b.goes("boot 1 1 - -1 0")
	b.is("deliver 6 * 'd", 80, 0, 0, "")
	b.is("deliver 6 * 'd", 230, 0, 0, "")
	b.is("deliver 7 * 'd", 80, 0, 0, "")
	b.is("deliver 7 * 'd", 230, 0, 0, "")
	b.goes("boot 1 0 - 0 0")
	b.is("deliver 1 * 'x", 50, 0, 0, "")
	b.is("deliver 1 * 'd", 230, 0, 0, "")
	b.is("deliver 2 * 'd", 0, 1, 2, "no") // the others' numbers are others' still
	b.goes("create 4 5 *")
	b.is("replay 1 4", 0, 1, 0, "")
	b.is("deliver 8 * -", 211, 0, 0, "")
}

// P24.1: each node knows each other one by its own name alone.
func TestNames(t *testing.T) {
	b := newBench(t, 4, wide())
	b.goes("create 1 60 *", "create 2 60 *", "create 3 60 *", "create 4 60 *")
	packets := 0
	for from := 1; from <= 4; from++ {
		for to := from + 1; to <= 4; to++ {
			b.does(lineOf("publish %d %d *", to, from))
			b.is(lineOf("initiate %d %d * * - -", from, to), 0, packets, 0, "+")
			b.is(lineOf("deliver %d * -", packets), 0, to, from, "")
			packets++
		}
	}
	sids := map[string]int{}
	for node := 1; node <= 4; node++ {
		for peer := 1; peer <= 4; peer++ {
			if peer != node {
				a := b.does(lineOf("status %d %d", node, peer))
				sids[a.Bytes[:16]]++
			}
		}
		list, _ := b.w.Records(node)
		for _, r := range list {
			if peer := int(r.Key[len(r.Key)-1] - '0'); r.Table == 4 && (string(r.Key) != lineOf("\x06node %d", peer) || peer < 1 || peer > 4 || peer == node) {
				t.Errorf("P24.1: node %d has a session under the name %q", node, r.Key[1:])
			}
		}
	}
	if len(sids) != 6 {
		t.Errorf("P24.1: %d sids of six sessions", len(sids))
	}
	for sid, n := range sids {
		if n != 2 {
			t.Errorf("P24.1: the sid %x is told by %d", sid, n)
		}
	}
}
