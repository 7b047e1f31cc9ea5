package outbox_test

import (
	"fmt"
	"math"
	"strings"
	"testing"

	"lethe/api"
	"lethe/outbox"
	"lethe/sectors"
	"lethe/store"
)

func callName(i int) string { return []string{"Put", "Ack", "List", "Drop"}[i] }

// all: every call's error; where one has another answer beside it, that is noted as -1.
func all(x *store.Tx, peer string, serial uint32, packet []byte, most int) [4]api.Errno {
	var codes [4]api.Errno
	note := func(i int, e api.Errno, zero bool) {
		codes[i] = e
		if e != api.OK && !zero {
			codes[i] = -1
		}
	}
	note(0, outbox.Put(x, peer, serial, packet, most), true)
	note(1, outbox.Ack(x, peer, serial), true)
	mails, e := outbox.List(x, peer)
	note(2, e, len(mails) == 0)
	n, e := outbox.Drop(x, peer)
	note(3, e, n == 0)
	return codes
}

// isRefused: every call answers that error, whatever else it is handed.
func isRefused(t *testing.T, what string, x *store.Tx, want api.Errno) {
	t.Helper()
	for _, peer := range []string{"", "bob", "bo", "carol", "odd", strings.Repeat("n", 17), strings.Repeat("n", 259)} {
		for _, serial := range []uint32{0, 3, 4, 1<<32 - 1} {
			for _, size := range []int{0, 1, 900, 901} {
				for _, most := range []int{math.MinInt, 0, 1, 9} {
					for i, e := range all(x, peer, serial, zeros(size), most) {
						isCode(t, fmt.Sprintf("P20.1: %s: %s of %q, %d, %d bytes, %d", what, callName(i), peer, serial, size, most), e, want)
					}
				}
			}
		}
	}
}

// stores: one without any record, one with packets, and one with a peer whose records are wrong: there every other error applies too.
func stores() map[string][]api.Record {
	return map[string][]api.Record{
		"empty":   nil,
		"packets": {packetOf("bob", 3, "x"), packetOf("bob", 4, "y"), packetOf("bo", 4, "z")},
		"wrong":   {packetOf("odd", 3, "x"), stray("odd", "abc"), stray("bob", "abcde"), packetOf("bob", 3, "x")},
	}
}

// P20.1: ErrHandle goes ahead of everything.
func TestNil(t *testing.T) {
	isRefused(t, "nil", nil, 3)
}

// P20.1: a transaction that is done, given up, or met a disk that gave up: ErrDone ahead of everything, beside an open one too, which goes on.
func TestDone(t *testing.T) {
	for name, list := range stores() {
		b := laidOut(t, list...)
		first := b.x
		b.abort()
		isRefused(t, name+", given up", first, 121)
		second := b.x
		b.commit()
		isRefused(t, name+", done", second, 121)
		third := b.x
		b.put("a change", "carol", 7, []byte("w"), 9)
		b.commit()
		isRefused(t, name+", done with a change", third, 121)
		isRefused(t, name+", given up long ago", first, 121)
		b.isSeen(name + ", beside the open one")
		last := b.x
		isCode(t, "Arm", b.d.Arm(1, api.Loss{Torn: -1}), api.OK)
		isCode(t, "Put", outbox.Put(last, "carol", 8, nil, 9), api.OK)
		isCode(t, "Commit", api.Code(last.Commit()), api.ErrDown)
		isRefused(t, name+", the disk has given up", last, 121)
		isCode(t, "Up", b.d.Up(), api.OK)
		b.reopen()
		isRefused(t, name+", of a store that was ended", last, 121)
		b.isSeen(name + ", opened anew")
	}
}

// P20.1: a transaction whose Commit had no room is not open either. Put does not ask for room: that is Commit's.
func TestDoneFull(t *testing.T) {
	d, _ := sectors.New(9)
	s, err := store.Format(d)
	if err != nil {
		t.Fatal(err)
	}
	x, _ := s.Begin()
	isCode(t, "Put", outbox.Put(x, "bob", 1, zeros(900), 9), api.OK)
	isCode(t, "Put", outbox.Put(x, "bob", 2, zeros(900), 9), api.OK)
	isCode(t, "Commit", api.Code(x.Commit()), api.ErrFull)
	isRefused(t, "full", x, 121)
	if len(s.All()) != 0 {
		t.Errorf("P20.1: the records are %s", told(s.All()))
	}
}

// No call of this layer ends a transaction: what it has done is there behind Commit, and not behind Abort.
func TestNeitherCommitNorAbort(t *testing.T) {
	b := laidOut(t, others()...)
	b.isPut("given up", "bob", 3, "x", 2, 0)
	b.abort()
	b.areListed("given up", "bob")
	b.isPut("put again", "bob", 3, "y", 2, 0)
	b.isPut("put again", "bob", 4, "z", 2, 0)
	b.commit()
	b.isAcked("given up", "bob", 3, 0)
	b.abort()
	b.isDropped("given up", "bob", 2)
	b.abort()
	b.areListed("both are back", "bob", mail(3, "y"), mail(4, "z"))
	b.isAcked("for good", "bob", 3, 0)
	b.commit()
	b.reopen()
	b.areListed("opened anew", "bob", mail(4, "z"))
	b.isDropped("for good", "bob", 1)
	b.commit()
	b.reopen()
	b.areListed("opened anew", "bob")
	if want := laidOut(t, others()...); !sameList(b.s.All(), want.s.All()) || string(b.d.Image()) != string(want.d.Image()) {
		t.Errorf("P20.2: something of the packets is left")
	}
}
