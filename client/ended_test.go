package client_test

import (
	"bytes"
	"fmt"
	"testing"

	"lethe/api"
)

// oddCalls: each call with arguments that an open client refuses.
func oddCalls() []call {
	return []call{
		{name: "Publish"}, {name: "Publish", draws: [][]byte{nil}}, {name: "Publish", draws: [][]byte{zeros(33)}},
		{name: "Initiate"}, {name: "Initiate", once: draw(1), turn: draw(2)}, {name: "Initiate", peer: "bob", once: zeros(31), turn: draw(2)},
		{name: "Accept"}, {name: "Accept", turn: draw(1)}, {name: "Receive"}, {name: "Receive", peer: "bob", turn: zeros(33)}, {name: "Receive", turn: draw(1)},
		{name: "Send"}, {name: "Send", peer: "nobody"}, {name: "Ack"}, {name: "Ack", peer: "bob", serial: 99}, {name: "Forget"}, {name: "Forget", peer: "nobody"},
		{name: "Replay"}, {name: "Tell"}, {name: "Tell", peer: "nobody"},
	}
}

// isEnded: every call answers that number, with its own name, and nothing else, whatever it is handed; the disk is left alone.
func (b *bench) isEnded(what string, number int) {
	b.t.Helper()
	image, calls, down := b.d.Image(), b.d.Calls(), b.d.Down()
	zero := words{ended: api.Errno(number)}
	for range 2 {
		for _, x := range append(anyCalls("bob"), oddCalls()...) {
			got, want := x.madeBy(b.c), x.madeBy(&zero)
			isForm(b.t, what, got.err, fmt.Sprintf("%s 0: %d", x.name, number))
			if got.String() != want.String() {
				b.t.Errorf("%s: %s of an ended client answers %s", what, x.name, got)
			}
		}
	}
	if !bytes.Equal(b.d.Image(), image) || b.d.Calls() != calls || b.d.Down() != down {
		b.t.Errorf("%s: the calls of an ended client have changed the disk", what)
	}
}

// P22.1: Close, and each of the calls behind it; nothing is written, and all is there when it is opened again.
func TestClose(t *testing.T) {
	alice, _ := begun(t, someLimits())
	list := alice.w.list
	alice.takes("Close", call{name: "Close"})
	alice.isEnded("Close", 220)
	alice.w.ended = 0
	alice.c = opened(t, "behind Close", alice.d)
	isLaidOut(t, "behind Close", alice.d, alice.c, list)
	alice.sends("behind Close", "bob", "text", "")

	isCode(t, "Crash", alice.d.Crash(api.Loss{Torn: -1}), 0)
	isForm(t, "Close over a disk that is down", alice.c.Close(), "nil")
	alice.isEnded("Close over a disk that is down", 220)
	isCode(t, "Up", alice.d.Up(), 0)
	alice.isEnded("Close, and the disk is up", 220)
}

// changing: a right call of each changing kind, each with the client that it is for.
func changing(t *testing.T) map[string]func() (*bench, call) {
	t.Helper()
	alice, bob := begun(t, wide())
	lost := alice.sends("lost", "bob", "lost", "")
	late := alice.sends("late", "bob", "late", "")
	bob.sends("an answer", "alice", "answer", "")
	answer := bob.sends("an answer", "alice", "another answer", "")
	carol := created(t, 3, 81, wide())
	bundle := carol.publishes("carol")
	first := carol.initiates("carol", "bob", bob.publishes("bob"), "hello", "")
	taken := bob.copied()
	taken.receives("late", "alice", late, "", "late")
	two := [][]byte{bob.draw(), bob.draw()}
	to := func(b *bench, x call) func() (*bench, call) {
		return func() (*bench, call) { return b.copied(), x }
	}
	return map[string]func() (*bench, call){
		"Publish":                 to(bob, call{name: "Publish", draws: two}),
		"Initiate":                to(bob, bob.firstTo("carol", bundle, "hello", "data")),
		"Accept":                  to(bob, bob.coming("Accept", "carol", first, "")),
		"Send":                    to(bob, call{name: "Send", peer: "alice", text: zeros(512), data: []byte("data")}),
		"Receive of a late one":   to(bob, bob.coming("Receive", "alice", late, "")),
		"Receive of a lost one":   to(taken, bob.coming("Receive", "alice", lost, "")),
		"Receive of a new turn":   to(alice, alice.coming("Receive", "bob", answer, "")),
		"Ack":                     to(bob, call{name: "Ack", peer: "alice", serial: 0}),
		"Forget":                  to(bob, call{name: "Forget", peer: "alice"}),
		"Forget with a kept key":  to(taken, call{name: "Forget", peer: "alice"}),
		"Publish on a small disk": to(created(t, 5, 9, wide()), call{name: "Publish", draws: two}),
	}
}

// P22.1, rule 6: a client whose disk gave up within one of its calls: each of the calls then, also when the disk is up again.
func TestGivenUp(t *testing.T) {
	for name, made := range changing(t) {
		b, x := made()
		isCode(t, "Arm", b.d.Arm(5, api.Loss{Torn: -1}), 0)
		got := x.madeBy(b.c)
		isForm(t, name, got.err, x.name+" 0: Commit 0: Commit 0: 80")
		zero := words{ended: 1}
		if want := x.madeBy(&zero); len(joined(got.lists...)) != 0 || got.rest != want.rest {
			t.Errorf("%s: beside ErrDown it answers %s", name, got)
		}
		b.isEnded(name, 80)
		isCode(t, "Up", b.d.Up(), 0)
		b.isEnded(name+", and the disk is up", 80)
	}
}

// P22.1: a disk that was made to give up between two calls: the asking ones answer as ahead of it, what is refused is refused, and the next changing call meets it.
func TestDownBetweenCalls(t *testing.T) {
	for name, made := range changing(t) {
		b, x := made()
		var ahead []string
		for _, ask := range asks(x.peer) {
			ahead = append(ahead, ask.madeBy(b.c).String())
		}
		isCode(t, "Crash", b.d.Crash(api.Loss{Torn: -1}), 0)
		image, calls := b.d.Image(), b.d.Calls()
		for round := range 2 {
			for i, ask := range asks(x.peer) {
				if got := ask.madeBy(b.c).String(); got != ahead[i] {
					t.Errorf("%s: %s over a disk that is down answers\n%s\nahead of it\n%s", name, ask.name, got, ahead[i])
				}
			}
			for _, odd := range oddCalls() {
				if got, want := odd.madeBy(b.c), odd.madeBy(&b.w); round == 0 && got.String() != want.String() {
					t.Errorf("%s: %s over a disk that is down answers %s, want %s", name, odd.name, got, want)
				}
			}
		}
		if !b.d.Down() || b.d.Calls() != calls || !bytes.Equal(b.d.Image(), image) {
			t.Errorf("%s: the asking calls have asked the disk", name)
		}
		isForm(t, name, x.madeBy(b.c).err, x.name+" 0: Commit 0: Commit 0: 80")
		b.isEnded(name, 80)
		if !bytes.Equal(b.d.Image(), image) {
			t.Errorf("%s: the image has changed", name)
		}
	}
}

// P9.10 as far as a client goes: a disk that has given up between two calls, and is up again, is not noticed.
func TestDownAndUpBetweenCalls(t *testing.T) {
	for name, made := range changing(t) {
		b, x := made()
		isCode(t, "Crash", b.d.Crash(api.Loss{Keep: []uint64{5}, Torn: 1, Offset: 100}), 0)
		isCode(t, "Up", b.d.Up(), 0)
		b.takes(name, x)
	}
}

// P22.1: each asking call of an armed disk changes nothing, and the disk does not count it.
func TestAsksDoNotCount(t *testing.T) {
	alice, _ := begun(t, someLimits())
	isCode(t, "Arm", alice.d.Arm(1, api.Loss{Torn: -1}), 0)
	for _, x := range asks("bob") {
		alice.takes("armed", x)
	}
	for _, x := range oddCalls() {
		alice.does("armed", x)
	}
	_, _, err := alice.c.Send("bob", nil, nil)
	isForm(t, "armed", err, "Send 0: Commit 0: Commit 0: 80")
}
