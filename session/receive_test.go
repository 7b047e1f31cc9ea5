package session_test

import (
	"fmt"
	"slices"
	"testing"

	"lethe/api"
)

// letter: a packet with what must come out of it.
type letter struct {
	packet     []byte
	text, data string
}

func (b *bench) writes(what, peer, text, data string) letter {
	b.t.Helper()
	return letter{b.sends(what, peer, text, data), text, data}
}

func (b *bench) reads(what, peer string, m letter) {
	b.t.Helper()
	b.receives(what, peer, m.packet, m.data, m.text)
}

// P21.7, P21.11: the messages of a turn in all orders: each is opened once to its text, and behind all of them the records are the same.
func TestAllOrders(t *testing.T) {
	a, b := begun(t, someLimits(), others()[:4]...)
	var list []letter
	for n := range 4 {
		a.take(6, wordsMailKey("bob", uint32(n)))
		list = append(list, a.writes("a turn", "bob", fmt.Sprint("text ", n), fmt.Sprint("data ", n%2)))
	}
	b.commit()
	var ends [][]api.Record
	var come func(order, left []int)
	come = func(order, left []int) {
		if len(left) > 0 {
			for i := range left {
				come(append(slices.Clone(order), left[i]), slices.Delete(slices.Clone(left), i, i+1))
			}
			return
		}
		for i, n := range order {
			what := fmt.Sprintf("order %d, message %d", order, n)
			b.reads(what, "alice", list[n])
			for _, m := range order[:i+1] {
				b.refuses(what+", again", "alice", list[m].packet, list[m].data, 161)
				b.refuses(what+", again with other data", "alice", list[m].packet, "other", 161)
			}
		}
		ends = append(ends, b.list)
		b.abort()
	}
	come(nil, []int{0, 1, 2, 3})
	for _, end := range ends {
		if !sameList(end, ends[0]) {
			t.Errorf("P21.7: %s, and %s", told(end), told(ends[0]))
		}
	}
	if len(ends) != 24 {
		t.Errorf("%d orders", len(ends))
	}
}

// P21.7: a message whose data, body or header is another one leaves all as it was, and opens then: in the turn that goes on, in a new turn, and by a skipped key.
func TestAlteredPackets(t *testing.T) {
	a, b := begun(t, someLimits())
	late := a.writes("late", "bob", "late", "d")
	a.take(6, wordsMailKey("bob", 0))
	on := a.writes("the turn goes on", "bob", "on", "d")
	b.reads("the turn goes on", "alice", on)
	answer := b.writes("an answer", "alice", "answer", "d")
	b.commit()
	alter := func(x *bench, peer string, m letter) {
		t.Helper()
		for bit := range 8 * len(m.packet) {
			altered := joined(m.packet)
			altered[bit/8] ^= 1 << (bit % 8)
			text, e := x.receive(fmt.Sprintf("bit %d turned", bit), peer, altered, draw(9), []byte(m.data))
			hello := m.packet[1] == 1 && bit >= 16 && bit < 8*70 && bit != 8*69 // it is not looked at, but that its prekey is not 0
			if (e == 0) != hello {
				t.Errorf("P21.7: bit %d turned: %q, error %d", bit, text, e)
			}
			if e == 0 {
				x.abort()
			}
		}
		for _, data := range []string{"", "e", "D", "dd", "d\x00"} {
			x.refuses("other data", peer, m.packet, data, 50)
		}
		x.reads("unaltered", peer, m)
		x.refuses("again", peer, m.packet, m.data, 161)
	}
	alter(b, "alice", late)
	a.commit()
	alter(a, "bob", answer)
	a.take(6, wordsMailKey("bob", 1))
	next := a.writes("the next turn", "bob", "next", "d")
	b.commit()
	alter(b, "alice", next)
}

// P21.7: of a packet of kind First nothing of the hello is looked at, where the session is there: it opens as a Plain one, and a Plain one as a First one.
func TestHelloIsNotLookedAt(t *testing.T) {
	a, b := begun(t, someLimits())
	m := a.writes("a first one", "bob", "text", "")
	p, _ := wordsUnpack(m.packet)
	b.commit()
	for i, hello := range []api.Hello{{Identity: draw(1), Prekey: 9}, {Identity: lowKeys()[0], Once: draw(2), Prekey: 1}, {Identity: p.Hello.Identity, Once: p.Hello.Once, Prekey: 1<<32 - 1}} {
		q := p
		q.Hello = hello
		b.receives(fmt.Sprint("another hello ", i), "alice", wordsPacket(q), "", "text")
		b.abort()
	}
	p.Kind = 2
	b.receives("without its hello", "alice", wordsPacket(p), "", "text")
	b.refuses("with its hello, again", "alice", m.packet, "", 161)
	answer := b.sends("an answer", "alice", "yes", "")
	q, _ := wordsUnpack(answer)
	q.Kind, q.Hello = 1, api.Hello{Identity: draw(3), Prekey: 3}
	a.receives("with a hello", "bob", wordsPacket(q), "", "yes")
	a.refuses("without it, again", "bob", answer, "", 161)
}

// P21.7: what is no packet, or another session's.
func TestWrongPackets(t *testing.T) {
	a, b := begun(t, wide(), others()...)
	m := a.writes("the right one", "bob", "text", "d")
	for n := range m.packet {
		b.refuses(fmt.Sprintf("%d bytes", n), "alice", m.packet[:n], "d", 10)
	}
	for _, n := range []int{1, 2, 1000} {
		b.refuses(fmt.Sprintf("%d bytes more", n), "alice", joined(m.packet, zeros(n)), "d", 11)
	}
	for c := range 256 {
		if c != 1 {
			b.refuses(fmt.Sprintf("version %d", c), "alice", joined([]byte{byte(c)}, m.packet[1:]), "d", 140)
		}
		if c != 1 && c != 2 {
			b.refuses(fmt.Sprintf("kind %d", c), "alice", joined(m.packet[:1], []byte{byte(c)}, m.packet[2:]), "d", 103)
		}
	}
	c := client(t, 3, wide())
	q := c.initiates("another session", "bob", b.prekey(2), "hi", "d")
	b.refuses("another session's", "alice", q, "d", 160)
	b.accepts("another session", "carol", q, "d", "hi")
	b.refuses("the first session's", "carol", m.packet, "d", 160)
	b.refuses("its own, to itself", "alice", b.sends("its own", "alice", "x", "d"), "d", 161)
	b.reads("the right one", "alice", m)
}

// P21.7: as many keys missing as Skip takes, and one more: in the turn that goes on, at the end of the turn ahead, and at the beginning of a new one.
func TestSkip(t *testing.T) {
	for _, skip := range []int{0, 1, 2, 4, 64} {
		lim := wide()
		lim.Skip = skip
		a, b := begun(t, lim)
		serial := uint32(1)
		write := func(count int) []letter {
			var list []letter
			for n := range count {
				list = append(list, a.writes("many", "bob", fmt.Sprint(serial, n), ""))
				a.take(6, wordsMailKey("bob", serial))
				serial++
			}
			return list
		}
		list := write(skip + 2)
		b.refuses("the turn goes on: one too many", "alice", list[skip+1].packet, "", 164)
		b.reads("the turn goes on: just as many", "alice", list[skip])
		b.has("P21.7: the turn goes on", 0, 1, skip, 0)
		for n := range skip {
			b.reads("the turn goes on: late", "alice", list[n])
		}
		more := write(skip) // with list[skip+1], the last of which none comes: one too many for the turn's end
		a.reads("an answer", "bob", b.writes("an answer", "alice", "answer", ""))
		next := write(skip + 2)
		b.refuses("the turn's end: one too many", "alice", next[0].packet, "", 164)
		b.reads("the last but Skip", "alice", list[skip+1])
		b.refuses("the new turn: one too many", "alice", next[skip+1].packet, "", 164)
		b.reads("both: just as many", "alice", next[skip])
		b.has("P21.7: both", 0, 1, 2*skip, 1)
		for n := range skip {
			b.reads("the turn's end: late", "alice", more[n])
			b.reads("the new turn: late", "alice", next[n])
		}
		b.has("P21.7: all", 0, 1, 0, 1)
		b.reads("the last", "alice", next[skip+1])
	}
}

// P21.7: as many skipped keys as Skips takes, and one more; a key that is taken makes room; a message without new keys needs none.
func TestSkips(t *testing.T) {
	for _, skips := range []int{0, 1, 3, 8, 65} {
		lim := wide()
		lim.Skips = skips
		a, b := begun(t, lim)
		var list []letter
		for n := range 2*skips + 6 {
			list = append(list, a.writes("many", "bob", fmt.Sprint(n), ""))
			a.take(6, wordsMailKey("bob", uint32(n+1)))
		}
		at := 0
		for left := skips; left > 0; { // in parts that Skip takes
			part := min(left, 64)
			at += part
			b.reads("room", "alice", list[at])
			at++
			left -= part
		}
		b.has("P21.7: full", 0, 1, skips, 0)
		b.refuses("one too many", "alice", list[at+1].packet, "", 150)
		b.reads("no new key", "alice", list[at])
		b.refuses("still one too many", "alice", list[at+2].packet, "", 150)
		if skips > 0 {
			b.reads("late", "alice", list[0])
			b.refuses("two new ones, room for one", "alice", list[at+3].packet, "", 150)
			b.reads("room for one", "alice", list[at+2])
		}
		b.has("P21.7: full again", 0, 1, skips, 0)
	}
}

// P21.7: the turns' and the messages' counters at their end.
func TestReceiveCounters(t *testing.T) {
	lim := someLimits()
	lim.Counter = 2
	a, b := client(t, 1, wide()), client(t, 2, lim)
	first := a.initiates("the first", "bob", b.prekey(1), "0", "")
	second := a.writes("the second", "bob", "1", "")
	third := a.writes("the third", "bob", "2", "")
	b.refusesAccept("number 2", "alice", third.packet, "", 130)
	b.accepts("number 0", "alice", first, "", "0")
	b.reads("number 1", "alice", second)
	b.refuses("number 2", "alice", third.packet, "", 130)
	a.reads("turn 0", "bob", b.writes("turn 0", "alice", "yes", ""))
	b.refuses("turn 1, behind a turn of 3", "alice", a.writes("turn 1", "bob", "x", "").packet, "", 130)
	s := b.state("alice")
	s.Got = 3
	b.layState("alice", s)
	b.refuses("turn 1, Prev above Counter", "alice", a.writes("turn 1", "bob", "x", "").packet, "", 130)
}

// P21.7: a header key that gives no secret.
func TestReceiveLowKeys(t *testing.T) {
	_, b := begun(t, wide())
	s := b.state("alice")
	for i, k := range lowKeys() {
		h := api.Header{Sid: s.Sid, Turn: 1, Key: k, Prev: 1}
		b.refuses(fmt.Sprint("low key ", i), "alice", wordsPacket(api.Packet{Kind: 2, Header: h, Body: zeros(40)}), "", 70)
	}
}

// P21.7: the draw is used for a new turn alone: else the records are the same whatever it is.
func TestDrawOfReceive(t *testing.T) {
	a, b := begun(t, wide())
	m := a.writes("the turn goes on", "bob", "on", "")
	q := b.writes("an answer", "alice", "answer", "")
	a.commit()
	b.commit()
	var ends [2][]api.Record
	for i := range ends {
		b.receive("the turn goes on", "alice", m.packet, draw(70+i), nil)
		ends[i] = b.list
		b.abort()
	}
	if !sameList(ends[0], ends[1]) {
		t.Errorf("P21.7: the draw counts where no turn begins")
	}
	for i := range ends {
		a.receive("a new turn", "bob", q.packet, draw(70+i), nil)
		if s := a.state("bob"); s.Pair != wordsPair(draw(70+i)) || s.Own != 2 || s.Turns != 1 || s.Prev != 2 || s.Sent != 0 || s.Serial != 2 || s.Hello != (api.Hello{}) {
			t.Errorf("P21.7: %+v", s)
		}
		a.abort()
	}
}
