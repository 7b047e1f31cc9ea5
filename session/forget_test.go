package session_test

import (
	"bytes"
	"fmt"
	"testing"
)

// full: a session with skipped keys and unacknowledged packets on both sides, under these names.
func full(t *testing.T, a, b *bench, toB, toA string, number uint32) {
	t.Helper()
	p := a.initiates("full", toB, b.prekey(number), "first", "")
	a.sends("full", toB, "lost", "")
	q := a.sends("full", toB, "third", "")
	b.accepts("full", toA, q, "", "third")
	b.receives("full", toA, p, "", "first")
	b.sends("full", toA, "lost too", "")
	a.receives("full", toB, b.sends("full", toA, "answer", ""), "", "answer")
}

// P21.8, P21.13: all of a session is gone, and nothing else: sessions whose names begin with its name, or with which its name begins, stay whole.
func TestForget(t *testing.T) {
	names := []string{"b", "bo", "bob", "bobb", "bobby", "bob\x00", "Bob", "\x03bob"}
	a, b := client(t, 1, wide()), client(t, 2, wide())
	for i, name := range names {
		full(t, a, b, name, name, uint32(i+1))
	}
	a.commit()
	b.commit()
	for _, x := range []*bench{a, b} {
		for i, name := range names {
			x.forgets("one of many", name, 0)
			for table := 4; table <= 6; table++ {
				for k, other := range names {
					left := len(wordsUnder(x.seen(), table, wordsPeer(other)))
					if want := len(wordsUnder(x.base, table, wordsPeer(other))); k <= i && left != 0 || k > i && (left != want || want == 0) {
						t.Errorf("P21.8: %q forgotten: table %d has %d records of %q, of %d", name, table, left, other, want)
					}
				}
			}
			x.forgets("again", name, 211)
		}
		x.has("P21.8: all forgotten", 0, 0, 0, 0)
	}
}

// P21.8: what stands in the session's record is not looked at; nor do wrong keys of table 5 stay; a wrong key of table 6 refuses it all.
func TestForgetOddRecords(t *testing.T) {
	_, b := begun(t, wide(), others()...)
	b.sends("an answer", "alice", "yes", "")
	b.commit()
	for _, value := range [][]byte{nil, {1}, zeros(222), zeros(900), []byte("any")} {
		b.lay(rec(4, wordsPeer("alice"), value))
		b.forgets("any value", "alice", 0)
		b.abort()
	}
	for n := 0; n <= 58; n++ {
		b.lay(rec(5, joined(wordsPeer("alice"), bytes.Repeat([]byte{byte(n)}, n)), steps(byte(n), n)))
	}
	b.forgets("any skipped keys", "alice", 0)
	if left := wordsUnder(b.seen(), 5, wordsPeer("alice")); len(left) != 0 {
		t.Errorf("P21.8: %s is left", told(left))
	}
	b.abort()
	for n := 0; n <= 58; n++ {
		if n != 4 {
			b.lay(rec(6, joined(wordsPeer("alice"), bytes.Repeat([]byte{0xee}, n)), nil))
			b.forgets(fmt.Sprintf("a packet's key of %d bytes", n), "alice", 180)
			b.abort()
		}
	}
	b.take(4, wordsPeer("alice"))
	b.laySkipped("alice", 0, 0, draw(1))
	b.lay(rec(6, wordsPeer("alice"), nil))
	b.forgets("skipped keys and packets without a session", "alice", 211)
}

// P21.8, P21.13: behind Forget the disk is that of a client that never had the session.
func TestForgottenImage(t *testing.T) {
	a, b := client(t, 1, wide()), client(t, 2, wide())
	twin := client(t, 1, wide())
	twin.commit()
	full(t, a, b, "bob", "alice", 1)
	a.commit()
	a.forgets("the only one", "bob", 0)
	a.commit()
	if !bytes.Equal(a.d.Image(), twin.d.Image()) {
		t.Errorf("P21.13: something of the session is on the disk")
	}
}

// P21.8, P21.12: behind Forget a session can be begun and accepted anew, and packets of the old one are no longer taken.
func TestForgetAndBeginAnew(t *testing.T) {
	a, b := client(t, 1, someLimits()), client(t, 2, someLimits())
	var old [][]byte
	for n := range uint32(5) {
		p := a.initiates("anew", "bob", b.prekey(n+1), fmt.Sprint("round ", n), "")
		for _, q := range old {
			b.refusesAccept("of an old session", "alice", q, "", 190)
		}
		b.accepts("anew", "alice", p, "", fmt.Sprint("round ", n))
		for _, q := range old {
			b.refuses("of an old session", "alice", q, "", 160)
		}
		q := a.sends("anew", "bob", "on", "")
		b.receives("anew", "alice", q, "", "on")
		old = append(old, p, q)
		a.forgets("anew", "bob", 0)
		if n%2 == 0 {
			_, e := b.accept("only one has forgotten", "alice", p, b.draw(), nil)
			isCode(t, "P21.5: only one has forgotten", e, 210)
		}
		b.forgets("anew", "alice", 0)
	}
}
