package session_test

import (
	"bytes"
	"fmt"
	"math/rand"
	"testing"

	"lethe/api"
)

// grave: the keys that a client's steps have left behind, and what each was.
type grave map[api.Key]string

func (g grave) put(what string, keys ...api.Key) {
	for _, k := range keys {
		if k != (api.Key{}) {
			g[k] = what
		}
	}
}

// chain: so many keys of a chain, from this one on.
func (g grave) chain(what string, key api.Key, count int64) {
	for range count {
		g.put(what, key)
		_, key = wordsChain(key, 0)
	}
}

// sent: what a step from this state has left behind when it has sealed a message.
func (g grave) sent(before api.State) {
	message, _ := wordsChain(before.SendKey, 0)
	g.put("a sealed message's key", message)
	g.put("a chain key for sending", before.SendKey)
}

// taken: what a step from this state, with these skipped keys, has left behind when it has opened a message.
func (g grave) taken(before api.State, skipped []api.Skipped, h api.Header) {
	for _, x := range skipped {
		if x.Turn == h.Turn && x.N == h.N {
			g.put("a skipped key that was taken", x.Key)
			return
		}
	}
	first, at := before.RecvKey, int64(before.Got)
	if h.Turn == before.Turns {
		shared, _ := wordsShared(before.Pair.Priv, h.Key)
		var between api.Key
		between, first = wordsRoot(before.Root, shared)
		at = 0
		g.put("a root key", before.Root, between)
		g.put("a shared secret", shared)
		g.put("an old turn's private key", before.Pair.Priv)
		g.put("an old turn's chain key", before.SendKey)
		if before.Turns > 0 {
			g.chain("a chain key of the peer's old turn", before.RecvKey, int64(h.Prev)-int64(before.Got)+1)
		}
	}
	message, _ := wordsChain(first, int64(h.N)-at)
	g.put("an opened message's key", message)
	g.chain("a chain key of the peer's turn", first, int64(h.N)-at+1)
}

// forgotten: what a session had.
func (g grave) forgotten(s api.State, skipped []api.Skipped) {
	g.put("a forgotten session's", s.Root, s.Pair.Priv, s.SendKey, s.RecvKey)
	for _, x := range skipped {
		g.put("a forgotten session's skipped key", x.Key)
	}
}

// isGone: none of them stands in a record.
func (b *bench) isGone(what string, g grave) {
	b.t.Helper()
	for _, r := range b.seen() {
		for k, name := range g {
			if bytes.Contains(r.Value, k[:]) {
				b.t.Errorf("P21.13: %s: %s stands in a record of table %d", what, name, r.Table)
			}
		}
	}
}

// isGoneFromDisk: nor on the disk, once it is committed.
func (b *bench) isGoneFromDisk(what string, g grave) {
	b.t.Helper()
	b.commit()
	image := b.d.Image()
	for k, name := range g {
		if bytes.Contains(image, k[:]) {
			b.t.Errorf("P21.13: %s: %s stands on the disk", what, name)
		}
	}
}

// TestGrave: that what is looked for would be found: each kind of key stands in a record as long as it lives.
func TestGrave(t *testing.T) {
	a, b := begun(t, wide())
	a.sends("lost", "bob", "lost", "")
	b.receives("third", "alice", a.sends("third", "bob", "third", ""), "", "third")
	s := b.state("alice")
	skipped, _ := wordsSkipped(b.list, "alice")
	if len(skipped) != 1 {
		t.Fatalf("%d skipped keys", len(skipped))
	}
	for _, k := range []api.Key{s.Root, s.Pair.Priv, s.SendKey, s.RecvKey, skipped[0].Key, b.own().Priv} {
		found := false
		for _, r := range b.seen() {
			found = found || bytes.Contains(r.Value, k[:])
		}
		if !found {
			t.Errorf("a key that lives stands nowhere")
		}
	}
}

// goner: one side of a talk, with what it must have forgotten.
type goner struct {
	*bench
	peer string
	dead grave
}

func (x *goner) says(what, text string) letter {
	x.t.Helper()
	x.dead.sent(x.state(x.peer))
	m := x.writes(what, x.peer, text, "d")
	x.isGone(what, x.dead)
	return m
}

func (x *goner) hears(what string, m letter) {
	x.t.Helper()
	before := x.state(x.peer)
	skipped, _ := wordsSkipped(x.list, x.peer)
	p, _ := wordsUnpack(m.packet)
	x.dead.taken(before, skipped, p.Header)
	x.reads(what, x.peer, m)
	x.isGone(what, x.dead)
}

// met: two sides, with the first message sent and taken, and their graves.
func met(t *testing.T) (*goner, *goner) {
	t.Helper()
	a := &goner{client(t, 1, wide()), "bob", grave{}}
	b := &goner{client(t, 2, wide()), "alice", grave{}}
	bundle := b.prekey(1)
	b.commit()
	offer, _ := wordsReadOffer(bundle)
	once, turn := a.draw(), a.draw()
	secret, _, _ := wordsFirst([3][2]api.Key{{a.own().Priv, offer.Key}, {wordsPair(once).Priv, offer.Identity}, {wordsPair(once).Priv, offer.Key}})
	start, _ := wordsBegin(secret, api.Sid{}, [64]byte{}, wordsPair(turn), offer.Key)
	a.dead.put("the first secret", secret)
	a.dead.put("the once key", wordsPair(once).Priv)
	a.dead.sent(start)
	packet, e := a.initiate("the first", "bob", bundle, once, turn, []byte("first"), nil)
	isCode(t, "Initiate", e, 0)
	a.isGone("the first", a.dead)
	p, _ := wordsUnpack(packet)
	prekey, _ := wordsFind(b.list, 1)
	ahead, _ := wordsMeet(b.list, p.Hello)
	b.dead.put("the prekey", prekey.Priv)
	b.dead.put("the prekey's public half", prekey.Pub)
	b.dead.taken(ahead, nil, p.Header)
	b.accepts("the first", "alice", packet, "", "first")
	b.isGone("the first", b.dead)
	return a, b
}

// P21.13: in drawn talks, behind every step, no key that a step has left behind stands in any record, nor on the disk; behind Forget none at all.
func TestGone(t *testing.T) {
	r := rand.New(rand.NewSource(21))
	for run := range 12 {
		a, b := met(t)
		sides := [2]*goner{a, b}
		var coming [2][]letter
		for n := range 60 {
			what := fmt.Sprintf("run %d, step %d", run, n)
			who := r.Intn(2)
			if waiting := len(coming[who]); waiting > 0 && r.Intn(5) > 1 {
				at := r.Intn(waiting)
				sides[who].hears(what, coming[who][at])
				coming[who] = append(coming[who][:at:at], coming[who][at+1:]...)
			} else {
				coming[1-who] = append(coming[1-who], sides[who].says(what, what))
			}
			if r.Intn(10) == 0 {
				sides[who].isGoneFromDisk(what, sides[who].dead)
			}
			if t.Failed() {
				return
			}
		}
		for who, x := range sides {
			skipped, _ := wordsSkipped(x.list, x.peer)
			if len(x.dead) < 40 {
				t.Errorf("run %d: side %d has left %d keys behind alone", run, who, len(x.dead))
			}
			x.dead.forgotten(x.state(x.peer), skipped)
			x.forgets("at last", x.peer, 0)
			x.isGone("forgotten", x.dead)
			x.isGoneFromDisk("forgotten", x.dead)
			for _, name := range [][]byte{[]byte("alice"), []byte("bob")} {
				if bytes.Contains(x.d.Image(), name) {
					t.Errorf("P21.13: the name %s stands on the disk", name)
				}
			}
		}
	}
}
