package outbox_test

import (
	"bytes"
	"fmt"
	"math/rand"
	"slices"
	"strings"
	"testing"

	"lethe/api"
)

// run: what a test notes beside the records: for each peer, what was put and neither acknowledged nor dropped since.
type run struct {
	*bench
	r           *rand.Rand
	kept, saved []api.Mail // of all peers, in the order in which they were put
	taken       map[api.Errno]int
}

func (u *run) index(peer string, serial uint32) int {
	return slices.IndexFunc(u.kept, func(m api.Mail) bool { return m.Peer == peer && m.Serial == serial })
}

// of: a peer's, by serial.
func (u *run) of(peer string) []api.Mail {
	var list []api.Mail
	for _, m := range u.kept {
		if m.Peer == peer {
			list = append(list, m)
		}
	}
	slices.SortFunc(list, func(a, b api.Mail) int {
		if a.Serial < b.Serial {
			return -1
		}
		return 1
	})
	return list
}

func runPeers() []string {
	return []string{"b", "bo", "bob", "bobb", "bobby", "\x00", "\x00\x00", "\x03bob", "\xff\xff", "0123456789abcde", "0123456789abcdef", "", "0123456789abcdefg"}
}

func (u *run) aPeer() string {
	peers := runPeers()
	return peers[u.r.Intn(len(peers))]
}

func (u *run) aSerial() uint32 {
	if u.r.Intn(4) == 0 {
		return serials()[u.r.Intn(len(serials()))]
	}
	return uint32(u.r.Intn(9))
}

func (u *run) aPacket() []byte {
	size := []int{0, 1, 5, 120, 680, 900, 901}[u.r.Intn(7)]
	packet := make([]byte, size)
	u.r.Read(packet)
	return packet
}

func (u *run) doPut(what string) {
	peer, serial, packet, most := u.aPeer(), u.aSerial(), u.aPacket(), u.r.Intn(8)-1
	e := u.put(what, peer, serial, packet, most)
	u.taken[e]++
	if e == api.OK {
		u.kept = append(slices.Clone(u.kept), api.Mail{Peer: peer, Serial: serial, Bytes: bytes.Clone(packet)})
	}
}

func (u *run) doAck(what string) {
	peer, serial := u.aPeer(), u.aSerial()
	if len(u.kept) > 0 && u.r.Intn(2) == 0 {
		m := u.kept[u.r.Intn(len(u.kept))]
		peer, serial = m.Peer, m.Serial
	}
	at := u.index(peer, serial)
	e := u.ack(what, peer, serial)
	u.taken[e]++
	if (e == api.OK) != (at >= 0) {
		u.t.Errorf("P20.1: %s: Ack(%q, %d) answers %d", what, peer, serial, e)
	}
	if at >= 0 {
		u.kept = slices.Delete(slices.Clone(u.kept), at, at+1)
	}
}

func (u *run) doDrop(what string) {
	peer := u.aPeer()
	n, e := u.drop(what, peer)
	u.taken[e]++
	if n != len(u.of(peer)) {
		u.t.Errorf("P20.1: %s: Drop(%q) answers %d, want %d", what, peer, n, len(u.of(peer)))
	}
	u.kept = slices.DeleteFunc(slices.Clone(u.kept), func(m api.Mail) bool { return m.Peer == peer })
}

func (u *run) step(what string) {
	u.t.Helper()
	switch u.r.Intn(16) {
	case 0:
		u.doDrop(what)
	case 1, 2, 3, 4:
		u.doAck(what)
	case 5:
		u.commit()
		u.saved = u.kept
	case 6:
		u.abort()
		u.kept = u.saved
	case 7:
		u.reopen()
		u.kept = u.saved
	default:
		u.doPut(what)
	}
	u.areKept(what)
}

// areKept: P20.2: what List tells is what was put and neither acknowledged nor dropped since.
func (u *run) areKept(what string) {
	u.t.Helper()
	for _, peer := range runPeers() {
		got, e := u.mails(what, peer)
		want := api.OK
		if peer == "" || len(peer) == 17 {
			want = 212
		}
		if e != want || !sameMails(got, u.of(peer)) {
			u.t.Errorf("P20.2: %s: List(%q) answers %s, %d; want %s", what, peer, toldMails(got), e, toldMails(u.of(peer)))
		}
	}
}

// P20.1, P20.2: drawn runs of all calls for many peers, with what was not committed given up now and then.
func TestDrawnRuns(t *testing.T) {
	taken := map[api.Errno]int{}
	for k := range 20 {
		u := &run{bench: laidOut(t, foreign()...), r: rand.New(rand.NewSource(int64(20 + k))), taken: taken}
		for n := range 150 {
			u.step(fmt.Sprintf("run %d, step %d", k, n))
			if t.Failed() {
				return
			}
		}
	}
	for _, e := range []api.Errno{0, 5, 151, 200, 201, 212} {
		if taken[e] < 20 {
			t.Errorf("error %d was met only %d times", e, taken[e])
		}
	}
}

// foreign: records that are none of the runs' peers'.
func foreign() []api.Record {
	list := []api.Record{rec(6, []byte("\x00\x00\x00\x00\x00"), []byte("no name's")), rec(6, []byte("\x110123456789abcdefg\x00\x00\x00\x01"), []byte("too long a name's")), packetOf("boc", 3, "another's"), packetOf("\xff\xff\xff", 0, "another's")}
	for _, table := range []int{0, 1, 5, 7, 15} {
		for _, peer := range []string{"b", "bob", "\x00"} {
			list = append(list, rec(table, wordsKey(peer, 3), []byte("another table's")))
		}
	}
	return list
}

// P20.2: the records, and the disk's image, hang on what is left alone: many roads to the same packets.
func TestOneImage(t *testing.T) {
	plain := laidOut(t, others()...)
	plain.lay(packetOf("bob", 2, "two"), packetOf("bob", 300, "three hundred"))
	plain.commit()
	b := laidOut(t, others()...)
	for i := range uint32(20) {
		b.isPut("more", "bob", i*100, strings.Repeat("secret", 20), 99, 0)
	}
	b.commit()
	b.isDropped("all", "bob", 20)
	b.isPut("later", "bob", 300, "other", 1, 0)
	b.commit()
	b.isPut("first", "bob", 2, "two", 2, 0)
	b.isAcked("other", "bob", 300, 0)
	b.isPut("last", "bob", 300, "three hundred", 2, 0)
	b.commit()
	if !sameList(b.s.All(), plain.s.All()) || !bytes.Equal(b.d.Image(), plain.d.Image()) {
		t.Errorf("P20.2: %s, want %s", told(b.s.All()), told(plain.s.All()))
	}
	if bytes.Contains(b.d.Image(), []byte("secret")) {
		t.Errorf("P20.2: a packet that was dropped stands on the disk")
	}
}
