package session_test

import (
	"testing"

	"lethe/api"
)

// P21.10, P21.11: both sides tell one sid, and each the other's identity.
func TestTell(t *testing.T) {
	a, b := client(t, 1, wide(), others()...), client(t, 2, wide(), others()...)
	full(t, a, b, "bob", "alice", 1)
	s, e := a.tell("both sides", "bob")
	r, f := b.tell("both sides", "alice")
	sid := a.state("bob").Sid
	if want := (api.Status{Peer: "bob", Identity: b.own().Pub, Sid: sid, Own: 2, Turns: 1, Sent: 0, Got: 2, Skipped: 1, Unanswered: 3}); e != 0 || s != want {
		t.Errorf("P21.10: %+v, %d; want %+v", s, e, want)
	}
	if want := (api.Status{Peer: "alice", Identity: a.own().Pub, Sid: sid, Own: 1, Turns: 1, Sent: 2, Got: 3, Skipped: 1, Unanswered: 2}); f != 0 || r != want {
		t.Errorf("P21.10: %+v, %d; want %+v", r, f, want)
	}
	_, e = a.tell("no session", "carol")
	isCode(t, "P21.10: no session", e, 211)
}

// P21.10: of the two identities the last, if the first is the client's own, else the first: also where neither, or both, are.
func TestTellIdentity(t *testing.T) {
	a, _ := begun(t, wide())
	own, s := a.own().Pub, a.state("bob")
	x, y := draw(1), draw(2)
	almost := own
	almost[31] ^= 0x80
	for i, c := range [][3]api.Key{{own, x, x}, {x, own, x}, {x, y, x}, {own, own, own}, {almost, own, almost}, {own, almost, almost}, {{}, x, {}}, {own, {}, {}}} {
		s.Bind, s.Hello = wordsBind(c[0], c[1]), api.Hello{}
		a.layState("bob", s)
		if told, e := a.tell("identities", "bob"); e != 0 || told.Identity != c[2] {
			t.Errorf("P21.10: identities %d: %x, %d; want %x", i, told.Identity, e, c[2])
		}
	}
}

// P21.10: the numbers of the state, each where it belongs.
func TestTellNumbers(t *testing.T) {
	_, b := begun(t, wide())
	s := b.state("alice")
	s.Own, s.Turns, s.Sent, s.Got, s.Prev, s.Serial, s.Sid = 0x01020304, 0x01020305, 0x11121314, 0x21222324, 0x31323334, 0x71727374, api.Sid(steps(3, 16))
	b.layState("alice", s)
	for n := range uint32(7) {
		b.laySkipped("alice", n, 3, draw(1))
	}
	for n := range uint32(5) {
		b.lay(rec(6, wordsMailKey("alice", n<<24), nil))
	}
	want := api.Status{Peer: "alice", Identity: api.Key(s.Bind[:32]), Sid: s.Sid, Own: 0x01020304, Turns: 0x01020305, Sent: 0x11121314, Got: 0x21222324, Skipped: 7, Unanswered: 5}
	if got, e := b.tell("numbers", "alice"); e != 0 || got != want {
		t.Errorf("P21.10: %+v, %d; want %+v", got, e, want)
	}
	b.layState("alice", api.State{})
	if got, e := b.tell("no numbers", "alice"); e != 0 || got.Own+got.Turns+got.Sent+got.Got != 0 || got.Skipped != 7 {
		t.Errorf("P21.10: %+v, %d", got, e)
	}
}
