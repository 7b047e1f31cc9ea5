package session_test

import (
	"slices"
	"strings"
	"testing"

	"lethe/api"
)

// call: what a call is handed, of which each takes its part, and what is laid ahead of it.
type call struct {
	peer       string
	offer      api.Offer
	p          api.Packet
	bend       func([]byte) []byte // of the offer's or the packet's bytes
	text, data []byte
	s          api.State
	session    func(*bench, *call) // lays the session's record; nil: none is there
}

func (c *call) bytesOf(b []byte) []byte {
	if c.bend != nil {
		return c.bend(b)
	}
	return b
}

// fault: one of a call's errors, as something that is done to a right call, or to the records ahead of it. on: to which things it is done; two that have one of these words in common can't be done together.
type fault struct {
	name string
	on   string
	code api.Errno
	done func(b *bench, c *call)
}

func together(f, g fault) bool {
	words := strings.Fields(g.on)
	return !slices.ContainsFunc(strings.Fields(f.on), func(w string) bool { return slices.Contains(words, w) })
}

// areToldInOrder: each fault alone, and each beside each one that is named behind it: the answer is the one that is named first. right answers a call without faults, made makes one.
func areToldInOrder(t *testing.T, b *bench, right func() call, faults []fault, made func(b *bench, what string, c *call) api.Errno) {
	t.Helper()
	asked := func(what string, want api.Errno, some ...fault) {
		t.Helper()
		c := right()
		for _, f := range some {
			f.done(b, &c)
		}
		if c.session != nil {
			c.session(b, &c)
		}
		isCode(t, what, made(b, what, &c), want)
		b.abort()
	}
	asked("no fault", 0)
	for i, f := range faults {
		asked(f.name, f.code, f)
		for _, g := range faults[i+1:] {
			if together(f, g) {
				asked(f.name+" and "+g.name, f.code, f, g)
			}
		}
	}
}

// The faults that several calls have.

func namesAndLimits() []fault {
	named := func(peer string) func(*bench, *call) { return func(b *bench, c *call) { c.peer = peer } }
	return []fault{
		{"no name", "name", 212, named("")},
		{"17 bytes", "name", 212, named(strings.Repeat("n", 17))},
		{"no limits", "limits", 123, func(b *bench, c *call) { b.take(1, one()) }},
		{"limits of 13 bytes", "limits", 123, func(b *bench, c *call) { b.lay(rec(1, one(), zeros(13))) }},
	}
}

// layAState: the session's record as c.s says.
func layAState(b *bench, c *call) { b.layState(c.peer, c.s) }

func stateFaults() []fault {
	value := func(make func(right []byte) []byte) func(*bench, *call) {
		return func(b *bench, c *call) {
			c.session = func(b *bench, c *call) { b.lay(rec(4, wordsPeer(c.peer), make(wordsState(c.s)))) }
		}
	}
	return []fault{
		{"no session", "session", 211, func(b *bench, c *call) { c.session = func(b *bench, c *call) { b.take(4, wordsPeer(c.peer)) } }},
		{"an empty state", "session", 180, value(func([]byte) []byte { return nil })},
		{"a cut state", "session", 180, value(func(right []byte) []byte { return right[:len(right)-1] })},
		{"a state and a byte", "session", 180, value(func(right []byte) []byte { return joined(right, []byte{0}) })},
		{"a state of another version", "session", 180, value(func(right []byte) []byte { return joined([]byte{2}, right[1:]) })},
	}
}

func skippedFaults() []fault {
	lays := func(behind, value int) func(*bench, *call) {
		return func(b *bench, c *call) { b.lay(rec(5, joined(wordsPeer(c.peer), steps(1, behind)), zeros(value))) }
	}
	return []fault{
		{"a place of 7 bytes", "strange-keys", 180, lays(7, 32)},
		{"a place of 9 bytes", "strange-keys", 180, lays(9, 32)},
		{"a key of 31 bytes", "strange-keys", 180, lays(8, 31)},
		{"a key of 33 bytes", "strange-keys", 180, lays(8, 33)},
	}
}

func identityFaults() []fault {
	return []fault{
		{"no identity", "identity", 123, func(b *bench, c *call) { b.take(2, one()) }},
		{"an identity of 63 bytes", "identity", 123, func(b *bench, c *call) { b.lay(rec(2, one(), zeros(63))) }},
		{"an identity of 65 bytes", "identity", 123, func(b *bench, c *call) { b.lay(rec(2, one(), zeros(65))) }},
	}
}

// strayMail: outbox' ErrState.
func strayMail() fault {
	return fault{"a packet's key of 3 bytes", "outbox", 180, func(b *bench, c *call) { b.lay(rec(6, joined(wordsPeer(c.peer), zeros(3)), nil)) }}
}

// mailFaults: of a step that has serial 0.
func mailFaults() []fault {
	return []fault{
		strayMail(),
		{"the serial is there", "serial", 151, func(b *bench, c *call) { b.lay(rec(6, wordsMailKey(c.peer, c.s.Serial), nil)) }},
		{"two packets are there", "serials", 200, func(b *bench, c *call) {
			b.lay(rec(6, wordsMailKey(c.peer, 8), nil), rec(6, wordsMailKey(c.peer, 9), nil))
		}},
	}
}

func textFaults() []fault {
	return []fault{
		{"a text of 513 bytes", "text", 5, func(b *bench, c *call) { c.text = zeros(513) }},
		{"data of 65 bytes", "data", 5, func(b *bench, c *call) { c.data = zeros(65) }},
	}
}

func roomFaults() []fault {
	return []fault{
		{"a session is there", "session", 210, func(b *bench, c *call) { b.lay(rec(4, wordsPeer(c.peer), []byte("any"))) }},
		{"two other sessions are there", "sessions", 213, func(b *bench, c *call) { b.lay(rec(4, wordsPeer("x"), nil), rec(4, []byte("no name's"), nil)) }},
	}
}

// bent: a fault of the bytes that come.
func bent(name string, code api.Errno, bend func([]byte) []byte) fault {
	return fault{name, "bytes", code, func(b *bench, c *call) { c.bend = bend }}
}

func first(n int) func([]byte) []byte { return func(b []byte) []byte { return b[:n] } }

func with(at int, bytes ...byte) func([]byte) []byte {
	return func(b []byte) []byte { return joined(b[:at], bytes, b[at+len(bytes):]) }
}

// bodySays: another number of the body's bytes.
func bodySays(high, low byte) func([]byte) []byte {
	return func(b []byte) []byte {
		at := 62
		if b[1] == 1 {
			at = 130
		}
		return with(at, high, low)(b)
	}
}

func less(n int) func([]byte) []byte { return func(b []byte) []byte { return b[:len(b)-n] } }

func more(b []byte) []byte { return joined(b, []byte{0}) }

// P21.4: Initiate.
func TestOrderOfInitiate(t *testing.T) {
	b := client(t, 1, someLimits())
	peer := client(t, 2, someLimits())
	offer, e := wordsReadOffer(peer.prekey(1))
	isCode(t, "the offer", e, 0)
	low := lowKeys()[0]
	faults := append(namesAndLimits(), roomFaults()...)
	faults = append(faults,
		bent("no bytes", 10, first(0)), bent("one byte", 10, first(1)), bent("version 2", 140, with(0, 2, 9)), bent("a packet's kind", 103, with(1, 1)), bent("cut", 10, less(1)), bent("a byte more", 11, more),
		bent("no identity in it", 170, with(2, zeros(32)...)), bent("prekey 0", 170, with(34, zeros(4)...)), bent("no key in it", 170, with(38, zeros(32)...)))
	faults = append(faults, identityFaults()...)
	faults = append(faults,
		fault{"a low prekey", "key", 70, func(b *bench, c *call) { c.offer.Key = low }},
		fault{"a low identity", "offered", 70, func(b *bench, c *call) { c.offer.Identity = low }})
	faults = append(faults, textFaults()...)
	faults = append(faults, fault{"an own identity whose public key is zero", "identity", 180, func(b *bench, c *call) {
		b.lay(rec(2, one(), joined(steps(1, 32), zeros(32))))
	}})
	faults = append(faults, mailFaults()...)
	right := func() call { return call{peer: "bob", offer: offer, text: []byte("text"), data: []byte("data")} }
	areToldInOrder(t, b, right, faults, func(b *bench, what string, c *call) api.Errno {
		_, e := b.initiate(what, c.peer, c.bytesOf(wordsOffer(c.offer)), draw(7), draw(8), c.text, c.data)
		return e
	})
}

// headerFaults: those of a packet that comes to the one whose peer's first turn has not begun.
func headerFaults() []fault {
	return []fault{
		{"data of 65 bytes", "data", 5, func(b *bench, c *call) { c.data = zeros(65) }},
		{"another sid", "sid", 160, func(b *bench, c *call) { c.p.Header.Sid[0] ^= 1 }},
		{"turn 1", "turn", 162, func(b *bench, c *call) { c.p.Header.Turn = 1 }},
		{"number 100", "number", 130, func(b *bench, c *call) { c.p.Header.N = 100 }},
		{"prev 1", "prev", 163, func(b *bench, c *call) { c.p.Header.Prev = 1 }},
		{"number 5", "number", 164, func(b *bench, c *call) { c.p.Header.N = 5 }},
		{"number 4", "number", 150, func(b *bench, c *call) { c.p.Header.N = 4 }},
		{"a low key", "key", 70, func(b *bench, c *call) { c.p.Header.Key = lowKeys()[0] }},
		{"another body", "body", 50, func(b *bench, c *call) { c.p.Body = zeros(40) }},
	}
}

// P21.5: Accept.
func TestOrderOfAccept(t *testing.T) {
	lim := someLimits()
	lim.Skips = 3
	a, b := client(t, 1, lim), client(t, 2, lim)
	p, e := wordsUnpack(a.initiates("the packet", "bob", b.prekey(1), "text", "data"))
	isCode(t, "the packet", e, 0)
	b.commit()
	faults := append(namesAndLimits(), roomFaults()...)
	faults = append(faults,
		bent("no bytes", 10, first(0)), bent("version 2", 140, with(0, 2, 9)), bent("a bundle's kind", 103, with(1, 3)), bent("cut in the header", 10, first(50)),
		fault{"no identity in it", "hello kind", 141, func(b *bench, c *call) { c.p.Hello.Identity = api.Key{} }},
		fault{"prekey 0", "number-in-hello kind", 141, func(b *bench, c *call) { c.p.Hello.Prekey = 0 }},
		bent("a body of 31 bytes", 10, bodySays(0, 31)), bent("a body of 545 bytes", 5, bodySays(2, 0x21)), bent("cut", 10, less(1)), bent("a byte more", 11, more),
		fault{"a plain one", "kind", 141, func(b *bench, c *call) { c.p.Kind = 2 }})
	faults = append(faults, identityFaults()...)
	faults = append(faults,
		fault{"no prekey", "prekey", 190, func(b *bench, c *call) { b.take(3, four(1)) }},
		fault{"another prekey", "number-in-hello kind", 190, func(b *bench, c *call) { c.p.Hello.Prekey = 2 }},
		fault{"a prekey of 63 bytes", "prekey", 123, func(b *bench, c *call) { b.lay(rec(3, four(1), zeros(63))) }},
		fault{"a low identity", "hello kind", 70, func(b *bench, c *call) { c.p.Hello.Identity = lowKeys()[0] }},
		fault{"a low once", "once kind", 70, func(b *bench, c *call) { c.p.Hello.Once = api.Key{} }})
	faults = append(faults, headerFaults()...)
	right := func() call { return call{peer: "alice", p: p, data: []byte("data")} }
	areToldInOrder(t, b, right, faults, func(b *bench, what string, c *call) api.Errno {
		_, e := b.accept(what, c.peer, c.bytesOf(wordsPacket(c.p)), draw(9), c.data)
		return e
	})
}

// P21.3, P21.6: Send.
func TestOrderOfSend(t *testing.T) {
	a, b := client(t, 1, someLimits()), client(t, 2, someLimits())
	a.initiates("the state", "bob", b.prekey(1), "text", "")
	s := a.state("bob")
	a.abort()
	s.Sent, s.Serial = 5, 5
	faults := append(namesAndLimits(), stateFaults()...)
	faults = append(faults, textFaults()...)
	faults = append(faults,
		fault{"no own turn", "session counter hello", 165, func(b *bench, c *call) { c.s = api.State{Sid: c.s.Sid, Root: c.s.Root} }},
		fault{"the counter's end", "counter", 130, func(b *bench, c *call) { c.s.Sent, c.s.Serial = 100, 100 }},
		fault{"the counter lowered", "limits", 130, func(b *bench, c *call) {
			lim := someLimits()
			lim.Counter = 5
			b.lay(rec(1, one(), wordsLimitsBytes(lim)))
		}},
		fault{"a hello of prekey 0", "hello", 141, func(b *bench, c *call) { c.s.Hello.Prekey = 0 }})
	faults = append(faults, mailFaults()...)
	right := func() call {
		return call{peer: "bob", text: []byte("text"), data: []byte("data"), s: s, session: layAState}
	}
	areToldInOrder(t, a, right, faults, func(b *bench, what string, c *call) api.Errno {
		_, _, e := b.send(what, c.peer, c.text, c.data)
		return e
	})
}

// P21.3, P21.7: Receive, of a further message of the turn that goes on.
func TestOrderOfReceive(t *testing.T) {
	a, b := begun(t, someLimits())
	a.sends("the one that is missing", "bob", "lost", "")
	a.take(6, wordsMailKey("bob", 0))
	p, e := wordsUnpack(a.sends("the packet", "bob", "text", "data"))
	isCode(t, "the packet", e, 0)
	b.commit()
	s := b.state("alice")
	faults := append(namesAndLimits(), stateFaults()...)
	faults = append(faults, skippedFaults()...)
	faults = append(faults,
		bent("no bytes", 10, first(0)), bent("version 2", 140, with(0, 2, 9)), bent("a bundle's kind", 103, with(1, 3)), bent("cut in the header", 10, first(100)),
		fault{"no identity in it", "hello", 141, func(b *bench, c *call) { c.p.Hello.Identity = api.Key{} }},
		bent("a body of 31 bytes", 10, bodySays(0, 31)), bent("a body of 545 bytes", 5, bodySays(2, 0x21)), bent("cut", 10, less(1)), bent("a byte more", 11, more),
		fault{"data of 65 bytes", "data", 5, func(b *bench, c *call) { c.data = zeros(65) }},
		fault{"another sid", "sid", 160, func(b *bench, c *call) { c.p.Header.Sid[15] ^= 1 }},
		fault{"number 0", "number turn", 161, func(b *bench, c *call) { c.p.Header.N = 0 }},
		fault{"turn 2", "turn", 162, func(b *bench, c *call) { c.p.Header.Turn = 2 }},
		fault{"number 100", "number", 130, func(b *bench, c *call) { c.p.Header.N = 100 }},
		fault{"another key", "key", 163, func(b *bench, c *call) { c.p.Header.Key[0] ^= 1 }},
		fault{"number 6", "number", 164, func(b *bench, c *call) { c.p.Header.N = 6 }},
		fault{"eight skipped keys", "full", 150, func(b *bench, c *call) {
			for n := range uint32(8) {
				b.laySkipped(c.peer, 7, n, draw(int(n)))
			}
		}},
		fault{"the missing one's key is there", "key-1", 151, func(b *bench, c *call) { b.laySkipped(c.peer, 0, 1, draw(1)) }},
		fault{"its own key is there", "key-2", 151, func(b *bench, c *call) { b.laySkipped(c.peer, 0, 2, draw(1)) }},
		fault{"another body", "body", 50, func(b *bench, c *call) { c.p.Body = zeros(40) }})
	right := func() call {
		return call{peer: "alice", p: p, data: []byte("data"), s: s, session: layAState}
	}
	areToldInOrder(t, b, right, faults, func(b *bench, what string, c *call) api.Errno {
		_, e := b.receive(what, c.peer, c.bytesOf(wordsPacket(c.p)), draw(9), c.data)
		return e
	})
}

// P21.8: Forget.
func TestOrderOfForget(t *testing.T) {
	_, b := begun(t, someLimits())
	s := b.state("alice")
	b.commit()
	faults := append(namesAndLimits(), stateFaults()[0], strayMail())
	right := func() call { return call{peer: "alice", s: s, session: layAState} }
	areToldInOrder(t, b, right, faults, func(b *bench, what string, c *call) api.Errno { return b.forget(what, c.peer) })
}

// P21.9: Peers.
func TestOrderOfPeers(t *testing.T) {
	_, b := begun(t, someLimits())
	b.commit()
	faults := append(namesAndLimits()[2:], fault{"a key of table 4", "session", 180, func(b *bench, c *call) { b.lay(rec(4, []byte("\x02x"), nil)) }})
	areToldInOrder(t, b, func() call { return call{} }, faults, func(b *bench, what string, c *call) api.Errno {
		_, e := b.peers(what)
		return e
	})
}

// P21.3, P21.10: Tell.
func TestOrderOfTell(t *testing.T) {
	_, b := begun(t, someLimits())
	s := b.state("alice")
	b.commit()
	faults := append(namesAndLimits(), stateFaults()...)
	faults = append(faults, skippedFaults()...)
	faults = append(faults, identityFaults()...)
	faults = append(faults, strayMail())
	right := func() call { return call{peer: "alice", s: s, session: layAState} }
	areToldInOrder(t, b, right, faults, func(b *bench, what string, c *call) api.Errno {
		_, e := b.tell(what, c.peer)
		return e
	})
}
