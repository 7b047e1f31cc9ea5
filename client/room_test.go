package client_test

import (
	"fmt"
	"testing"
)

// P22.1, P22.3: on a disk that has room for nothing else each call that needs some is refused, again and again, and all other calls go on.
func TestNoRoom(t *testing.T) {
	alice, bob := begun(t, wide())
	alice.sends("the missing one", "bob", "lost", "")
	late := alice.sends("the late one", "bob", "late", "")
	carol := created(t, 3, 81, wide())
	bundle := carol.publishes("carol")
	first := carol.initiates("carol", "bob", bob.publishes("bob"), "hello", "")
	list, size := filled(t, bob.w.list)
	b := over(t, size, list)
	b.who = 4
	for range 2 {
		b.refuses("no room", call{name: "Publish", draws: [][]byte{b.draw()}}, "Publish 0: Commit 0: 120")
		b.refuses("no room", b.firstTo("carol", bundle, "hello", ""), "Initiate 0: Commit 0: 120")
		b.refuses("no room", b.coming("Accept", "carol", first, ""), "Accept 0: Commit 0: 120")
		b.refuses("no room", call{name: "Send", peer: "alice", text: []byte("text")}, "Send 0: Commit 0: 120")
		b.refuses("no room", b.coming("Receive", "alice", late, ""), "Receive 0: Commit 0: 120")
		for _, x := range asks("alice") {
			b.takes("no room", x)
		}
	}
	b.reopens("no room")
	b.takes("no room", call{name: "Forget", peer: "alice"})
	b.accepts("there is room", "carol", first, "", "hello")
}

// P22.3: prekeys that have no room are not published, and their numbers are given to those that are.
func TestNoRoomForPrekeys(t *testing.T) {
	b := created(t, 1, 9, wide())
	other := created(t, 2, 81, wide())
	draws := func(n int) (list [][]byte) {
		for range n {
			list = append(list, b.draw())
		}
		return list
	}
	b.refuses("13 at once", call{name: "Publish", draws: draws(13)}, "Publish 0: Commit 0: 120")
	first := b.takes("11", call{name: "Publish", draws: draws(11)}).lists
	b.refuses("two more", call{name: "Publish", draws: draws(2)}, "Publish 0: Commit 0: 120")
	b.publishes("one more")
	b.refuses("one more", call{name: "Publish", draws: draws(1)}, "Publish 0: Commit 0: 120")
	if a := b.takes("twelve", call{name: "Prekeys"}); a.rest != "[1 2 3 4 5 6 7 8 9 10 11 12]" {
		t.Errorf("Prekeys answers %s", a)
	}
	p := other.initiates("a first one", "b", first[4], "hi", "")
	b.refuses("a session more", b.coming("Accept", "other", p, ""), "Accept 0: Commit 0: 120")
	if a := b.takes("twelve", call{name: "Prekeys"}); a.rest != "[1 2 3 4 5 6 7 8 9 10 11 12]" {
		t.Errorf("behind a refused Accept Prekeys answers %s", a)
	}
}

// P22.3: a packet that has no room was never made: the next one has its serial; an Ack makes room.
func TestNoRoomForPackets(t *testing.T) {
	alice, bob := created(t, 1, 13, wide()), created(t, 2, 81, wide())
	packets := [][]byte{alice.initiates("0", "bob", bob.publishes("a bundle"), string(zeros(400)), "")}
	send := call{name: "Send", peer: "bob", text: zeros(400)}
	full := func(what string) {
		t.Helper()
		for range 3 {
			alice.refuses(what, send, "Send 0: Commit 0: 120")
		}
		alice.reopens(what)
		alice.refuses(what, send, "Send 0: Commit 0: 120")
	}
	packets = append(packets, alice.takes("1", send).only())
	full("two packets")
	for serial := uint32(2); serial < 6; serial++ {
		alice.takes("room", call{name: "Ack", peer: "bob", serial: serial - 2})
		a := alice.takes("room", send)
		if a.rest != fmt.Sprint(serial) {
			t.Errorf("behind refused ones the serial is %s, want %d", a.rest, serial)
		}
		packets = append(packets, a.only())
		full("two packets again")
	}
	bob.accepts("0", "alice", packets[0], "", string(zeros(400)))
	for _, p := range packets[1:] {
		bob.receives("all", "alice", p, "", string(zeros(400)))
	}
}
