package client_test

import (
	"crypto/sha256"
	"encoding/hex"
	"fmt"
	"testing"

	"lethe/api"
	"lethe/client"
)

// P22.1: the chapter's table, row by row.
func TestExamples(t *testing.T) {
	refused := func(what string, c *client.Client, err error, want string) {
		t.Helper()
		isForm(t, what, err, want)
		if c != nil {
			t.Errorf("%s: a client beside an error", what)
		}
	}
	c, err := client.Create(nil, someLimits(), draw(1))
	refused("no disk", c, err, "Create 0: 3")
	c, err = client.Create(disk(t, 5), someLimits(), draw(1))
	refused("a disk of one page", c, err, "Create 0: Load 0: 120")
	lim := someLimits()
	lim.Peers = 0
	c, err = client.Create(disk(t, 81), lim, draw(1))
	refused("Peers 0", c, err, "Create 0: 2")
	c, err = client.Create(disk(t, 81), someLimits(), draw(1)[:31])
	refused("31 bytes", c, err, "Create 0: 71")
	c, err = client.Open(disk(t, 81))
	refused("a disk of zeros", c, err, "Open 0: Open 0: 100")

	b := created(t, 1, 81, someLimits())
	b.refuses("no draw", call{name: "Publish"}, "Publish 0: 6")
	a := b.takes("two draws", call{name: "Publish", draws: [][]byte{b.draw(), b.draw()}})
	if len(a.lists) != 2 || len(a.lists[0]) != 70 || string(a.lists[0][34:38]) != "\x00\x00\x00\x01" || string(a.lists[1][34:38]) != "\x00\x00\x00\x02" {
		t.Errorf("two draws: Publish answers %x", a.lists)
	}
	b.refuses("no session", call{name: "Send", peer: "bob", text: []byte("hi")}, "Send 0: 211")
	b.refuses("no name", call{name: "Send"}, "Send 0: 212")
	b.takes("once", call{name: "Close"})
	b.refuses("again", call{name: "Close"}, "Close 0: 220")
	b.refuses("behind Close", call{name: "Peers"}, "Peers 0: 220")
}

// The document's examples of the whole, as calls of two clients.

const (
	wholeOwn1   = "422c8e7a6227d7bca1350b3e2bb7279f7897b87bb6854b783c60e80311ae3079"
	wholeOwn2   = "8d20f8c7bbfb9af3da4ef532ed44efc68ce642bc5d0c5cb1d7b91b96c74edf02"
	wholeBundle = "01038d20f8c7bbfb9af3da4ef532ed44efc68ce642bc5d0c5cb1d7b91b96c74edf0200000001ae8b046f96cb5841c86fd8b63d3d6265b209dfa0df66bdaa42b7a9fc59779523"
	wholePacket = "0101422c8e7a6227d7bca1350b3e2bb7279f7897b87bb6854b783c60e80311ae30790f524bef7e12258fd9eefcd9e468b21e" +
		"543d90cc4a54b347f48cc5969febf43200000001bf3412d4e13c430e952c48438d6fa11d0000000087558542bbbfff0f9390" +
		"2ffa8434b44235daa830ccffb1a6b5300b3cda701d05000000000000000000221a3082d11b525935c463d82725c20b93a1cd" +
		"a48a74d126704924eaf002a0df674491"
)

// wholeDraw: Dk.
func wholeDraw(k byte) []byte {
	d := api.Key{0: 8 * k, 31: 64}
	return d[:]
}

// stage: nodes 1 and 2 of an example.
type stage struct {
	t    *testing.T
	node [3]*bench
}

// raised: the room line and the create lines.
func raised(t *testing.T) *stage {
	t.Helper()
	lim := api.Limits{Peers: 2, Prekeys: 2, Skip: 2, Skips: 4, Outbox: 2, Counter: 9}
	g := &stage{t: t}
	for n, own := range []string{1: wholeOwn1, 2: wholeOwn2} {
		if n == 0 {
			continue
		}
		d := disk(t, 81)
		c, err := client.Create(d, lim, wholeDraw(byte(n)))
		if err != nil {
			t.Fatalf("Create: %v", err)
		}
		g.node[n] = &bench{t: t, d: d, c: c, w: words{size: 81, list: recordsOf(t, "Create", c)}, who: n}
		if a := g.node[n].takes("an example", call{name: "Identity"}); a.rest != own {
			t.Errorf("node %d's identity is %s, want %s", n, a.rest, own)
		}
	}
	return g
}

// opening: the whole opening, and P0.
func opening(t *testing.T) (*stage, []byte) {
	t.Helper()
	g := raised(t)
	bundle := g.node[2].takes("the opening", call{name: "Publish", draws: [][]byte{wholeDraw(3)}}).only()
	if hex.EncodeToString(bundle) != wholeBundle {
		t.Errorf("the bundle is %x, want %s", bundle, wholeBundle)
	}
	p0 := g.node[1].takes("the opening", call{name: "Initiate", peer: "node 2", bytes: bundle, once: wholeDraw(4), turn: wholeDraw(5), text: []byte("hi")}).only()
	if hex.EncodeToString(p0) != wholePacket {
		t.Errorf("the packet is %x, want %s", p0, wholePacket)
	}
	return g, p0
}

// delivers: a packet comes to a node from the other one.
func (g *stage) delivers(name string, to int, packet []byte, k byte, data, text, want string) {
	g.t.Helper()
	a := g.node[to].does("an example", call{name: name, peer: fmt.Sprint("node ", 3-to), bytes: packet, turn: wholeDraw(k), data: []byte(data)})
	if form(a.err) != want || string(a.only()) != text {
		g.t.Errorf("%s answers %s, want %q and %s", name, a, text, want)
	}
}

func (g *stage) sends(from int, text string) []byte {
	g.t.Helper()
	return g.node[from].sends("an example", fmt.Sprint("node ", 3-from), text, "")
}

// replays: the packets that a node would send again.
func (g *stage) replays(from, want int) [][]byte {
	g.t.Helper()
	a := g.node[from].takes("an example", call{name: "Replay", peer: fmt.Sprint("node ", 3-from)})
	if len(a.lists) != want {
		g.t.Fatalf("Replay answers %d packets, want %d", len(a.lists), want)
	}
	return a.lists
}

func (g *stage) forgets(who int, want string) {
	g.t.Helper()
	isForm(g.t, "Forget", g.node[who].does("an example", call{name: "Forget", peer: fmt.Sprint("node ", 3-who)}).err, want)
}

func (g *stage) areImages(what, first, second string) {
	g.t.Helper()
	for n, want := range []string{1: first, 2: second} {
		if n == 0 {
			continue
		}
		if got := sha256.Sum256(g.node[n].d.Image()); hex.EncodeToString(got[:]) != want {
			g.t.Errorf("%s: the digest of %d's image is %x, want %s", what, n, got, want)
		}
	}
}

func TestExamplesOfTalks(t *testing.T) {
	g, p0 := opening(t)
	g.delivers("Accept", 2, p0, 6, "", "hi", "nil")
	g.delivers("Receive", 1, g.sends(2, "yes"), 7, "", "yes", "nil")
	s, err := g.node[1].c.Tell("node 2")
	if told := fmt.Sprintf("%d %d %x%08x%08x", s.Sent, s.Got, s.Sid, s.Own, s.Turns); err != nil || told != "0 1 bf3412d4e13c430e952c48438d6fa11d0000000200000001" {
		t.Errorf("example 1: Tell answers %s, %v", told, err)
	}
	g.areImages("example 1", "9bd82874ff94cc762c18f3b9c53d3da0e97429aa96c80ff0619929a565affefb", "effb1d84ff60f516b9cb06770beb1c5b659a7edd15e0137c1612790353021236")

	g, p0 = opening(t)
	again := g.replays(1, 1)[0]
	if string(again) != string(p0) {
		t.Errorf("example 2: Replay answers %x", again)
	}
	g.delivers("Accept", 2, again, 6, "", "hi", "nil")
	g.node[1].takes("example 2", call{name: "Ack", peer: "node 2", serial: 0})
	g.replays(1, 0)
	g.areImages("example 2", "d875f953f5fa4161e85d46e027843b28a4ec0e976fa66e7a745f4b86e579c38b", "68c453f0efd193584e27fdfcc810a927d6726097033568fbd2af162d42bfb372")

	g, p0 = opening(t)
	g.delivers("Accept", 2, p0, 6, "", "hi", "nil")
	g.delivers("Receive", 2, p0, 7, "", "", "Receive 0: 161")
	g.areImages("example 3", "987c7f33f8a156eb809a42f3b342f21a123ad63486860123fd71c7baa43b82a8", "68c453f0efd193584e27fdfcc810a927d6726097033568fbd2af162d42bfb372")

	g, p0 = opening(t)
	p2 := g.sends(1, "a")
	g.delivers("Accept", 2, p2, 6, "", "a", "nil")
	g.delivers("Receive", 2, p0, 7, "", "hi", "nil")
	g.areImages("example 4", "56e6c641b32c688b3b9cec467c7349d9ec1bc2803a4c714a06d8817ad30f3e80", "8ba23f512443badb8246ddf62b52cf5675fd8cf1defee9e1acd0fafe0dd191b2")

	g, p0 = opening(t)
	g.delivers("Accept", 2, p0, 6, "\x01", "", "Accept 0: 50")
	g.delivers("Accept", 2, p0, 6, "", "hi", "nil")
	g.areImages("example 7", "987c7f33f8a156eb809a42f3b342f21a123ad63486860123fd71c7baa43b82a8", "68c453f0efd193584e27fdfcc810a927d6726097033568fbd2af162d42bfb372")
}

func TestExamplesThatForget(t *testing.T) {
	g, p0 := opening(t)
	g.delivers("Accept", 2, p0, 6, "", "hi", "nil")
	g.forgets(1, "nil")
	g.forgets(2, "nil")
	g.forgets(2, "Forget 0: 211")
	g.areImages("example 8", "2cf58e9a395ed0818e80892f98132ba113ec7a7c53edddf26232bc6950395166", "d072f5d6a76a325b9793207eaef1f26e308918c0408d4d3d8a6ee7dd2599cd9b")

	g, p0 = opening(t)
	g.delivers("Accept", 2, p0, 6, "", "hi", "nil")
	g.forgets(2, "nil")
	g.delivers("Accept", 2, p0, 6, "", "", "Accept 0: 190")
	g.areImages("example 9", "987c7f33f8a156eb809a42f3b342f21a123ad63486860123fd71c7baa43b82a8", "d072f5d6a76a325b9793207eaef1f26e308918c0408d4d3d8a6ee7dd2599cd9b")

	raised(t).areImages("example 10", "2cf58e9a395ed0818e80892f98132ba113ec7a7c53edddf26232bc6950395166", "6d4cab493ceb554fe93e102df57b4dda70011afebd8bbe67b4dc8b16073fcff3")
}

// boots: node 2's disk has given up within a Send; it is up again, and opened. How many records there are.
func (g *stage) boots(step int, loss api.Loss, want int) {
	g.t.Helper()
	b := g.node[2]
	isCode(g.t, "Arm", b.d.Arm(step, loss), 0)
	_, packet, err := b.c.Send("node 1", []byte("a"), nil)
	isForm(g.t, "Send", err, "Send 0: Commit 0: Commit 0: 80")
	_, more, err := b.c.Send("node 1", []byte("a"), nil)
	isForm(g.t, "Send again", err, "Send 0: 80")
	if packet != nil || more != nil {
		g.t.Errorf("a packet beside an error")
	}
	isCode(g.t, "Up", b.d.Up(), 0)
	b.c = opened(g.t, "Open", b.d)
	b.w.list = recordsOf(g.t, "Open", b.c)
	if len(b.w.list) != want {
		g.t.Errorf("%d records, want %d", len(b.w.list), want)
	}
}

func TestExamplesThatGiveUp(t *testing.T) {
	g, p0 := opening(t)
	g.delivers("Accept", 2, p0, 6, "", "hi", "nil")
	g.boots(3, api.Loss{Torn: -1}, 4)
	g.delivers("Receive", 1, g.sends(2, "b"), 7, "", "b", "nil")
	g.areImages("example 5", "9bd82874ff94cc762c18f3b9c53d3da0e97429aa96c80ff0619929a565affefb", "c7ea0593a626b2c845002651d428c90e2c4687a1359c225e4c8c8fedf6a8a876")

	g, p0 = opening(t)
	g.delivers("Accept", 2, p0, 6, "", "hi", "nil")
	g.boots(12, api.Loss{Keep: []uint64{1<<64 - 1}, Torn: -1}, 5)
	g.delivers("Receive", 1, g.replays(2, 1)[0], 7, "", "a", "nil")
	g.areImages("example 6", "9bd82874ff94cc762c18f3b9c53d3da0e97429aa96c80ff0619929a565affefb", "c9e30d0a93d017e6d7156d68bffb0f43e006cbd2e005263dde63bb1345e0612d")
}
